/- Curve: a point's bytes, and which bytes are a point: the law's walk. -/
import Derived.Test.YtgmfecncfekjfaaDoorCvBm
import Derived.Test.YtgmfecncfekjfaaDoorLw3A
namespace Go.Proofs.YtgmfecncfekjfaaDoor
open Go Go.RowKit Go.Lib
attribute [local go_sem] run_eqP run_eq49 eq4_same beqB_same

set_option maxRecDepth 100000 in
set_option maxHeartbeats 4000000 in
theorem bytes_nn (x y X Y : Nat) (i I : Bool) (B s : ByteArray) (E : Int) (hE : ¬ E = 0)
    (k1 : ∀ w, GlobP w → Calls Tryd.prog 20 #[.agg #[.int .u64 (limb (x) 0 : Nat), .int .u64 (limb (x) 1 : Nat), .int .u64 (limb (x) 2 : Nat), .int .u64 (limb (x) 3 : Nat), .int .u64 (limb (y) 0 : Nat), .int .u64 (limb (y) 1 : Nat), .int .u64 (limb (y) 2 : Nat), .int .u64 (limb (y) 3 : Nat), .bool i]] w fun e w' => e = .returned (.tuple #[.string B, .int .i64 30]) ∧ Below w.heap.size w w')
    (k2 : ∀ w, Calls Tryd.prog 21 #[.agg #[.int .u64 (limb (x) 0 : Nat), .int .u64 (limb (x) 1 : Nat), .int .u64 (limb (x) 2 : Nat), .int .u64 (limb (x) 3 : Nat), .int .u64 (limb (y) 0 : Nat), .int .u64 (limb (y) 1 : Nat), .int .u64 (limb (y) 2 : Nat), .int .u64 (limb (y) 3 : Nat), .bool i]] w fun e w' => e = .returned (.tuple #[.string B, .int .i64 30]) ∧ Below w.heap.size w w')
    (k3 : ∀ w, Glob w → Calls Tryd.prog 22 #[.string s] w fun e w' => e = .returned (.tuple #[.agg #[.int .u64 (limb (X) 0 : Nat), .int .u64 (limb (X) 1 : Nat), .int .u64 (limb (X) 2 : Nat), .int .u64 (limb (X) 3 : Nat), .int .u64 (limb (Y) 0 : Nat), .int .u64 (limb (Y) 1 : Nat), .int .u64 (limb (Y) 2 : Nat), .int .u64 (limb (Y) 3 : Nat), .bool I], .int .i64 E]) ∧ Below w.heap.size w w')
    (k4 : ∀ w, Calls Tryd.prog 23 #[.string s] w fun e w' => e = .returned (.tuple #[.agg #[.int .u64 (limb (X) 0 : Nat), .int .u64 (limb (X) 1 : Nat), .int .u64 (limb (X) 2 : Nat), .int .u64 (limb (X) 3 : Nat), .int .u64 (limb (Y) 0 : Nat), .int .u64 (limb (Y) 1 : Nat), .int .u64 (limb (Y) 2 : Nat), .int .u64 (limb (Y) 3 : Nat), .bool I], .int .i64 E]) ∧ Below w.heap.size w w')
    (w : World) (hG : GlobP w) (hT : GTH w) (hQ : GG w) (hR : Glob w) : Calls Tryd.prog 6 #[.agg #[.int .u64 (limb (x) 0 : Nat), .int .u64 (limb (x) 1 : Nat), .int .u64 (limb (x) 2 : Nat), .int .u64 (limb (x) 3 : Nat), .int .u64 (limb (y) 0 : Nat), .int .u64 (limb (y) 1 : Nat), .int .u64 (limb (y) 2 : Nat), .int .u64 (limb (y) 3 : Nat), .bool i], .string s] w fun e w' => e = .returned (.bool true) ∧ Below w.heap.size w w' := by
  have K1 : Hid (∀ w, GlobP w → Calls Tryd.prog 20 #[.agg #[.int .u64 (limb (x) 0 : Nat), .int .u64 (limb (x) 1 : Nat), .int .u64 (limb (x) 2 : Nat), .int .u64 (limb (x) 3 : Nat), .int .u64 (limb (y) 0 : Nat), .int .u64 (limb (y) 1 : Nat), .int .u64 (limb (y) 2 : Nat), .int .u64 (limb (y) 3 : Nat), .bool i]] w fun e w' => e = .returned (.tuple #[.string B, .int .i64 30]) ∧ Below w.heap.size w w') := k1
  have K2 : Hid (∀ w, Calls Tryd.prog 21 #[.agg #[.int .u64 (limb (x) 0 : Nat), .int .u64 (limb (x) 1 : Nat), .int .u64 (limb (x) 2 : Nat), .int .u64 (limb (x) 3 : Nat), .int .u64 (limb (y) 0 : Nat), .int .u64 (limb (y) 1 : Nat), .int .u64 (limb (y) 2 : Nat), .int .u64 (limb (y) 3 : Nat), .bool i]] w fun e w' => e = .returned (.tuple #[.string B, .int .i64 30]) ∧ Below w.heap.size w w') := k2
  have K3 : Hid (∀ w, Glob w → Calls Tryd.prog 22 #[.string s] w fun e w' => e = .returned (.tuple #[.agg #[.int .u64 (limb (X) 0 : Nat), .int .u64 (limb (X) 1 : Nat), .int .u64 (limb (X) 2 : Nat), .int .u64 (limb (X) 3 : Nat), .int .u64 (limb (Y) 0 : Nat), .int .u64 (limb (Y) 1 : Nat), .int .u64 (limb (Y) 2 : Nat), .int .u64 (limb (Y) 3 : Nat), .bool I], .int .i64 E]) ∧ Below w.heap.size w w') := k3
  have K4 : Hid (∀ w, Calls Tryd.prog 23 #[.string s] w fun e w' => e = .returned (.tuple #[.agg #[.int .u64 (limb (X) 0 : Nat), .int .u64 (limb (X) 1 : Nat), .int .u64 (limb (X) 2 : Nat), .int .u64 (limb (X) 3 : Nat), .int .u64 (limb (Y) 0 : Nat), .int .u64 (limb (Y) 1 : Nat), .int .u64 (limb (Y) 2 : Nat), .int .u64 (limb (Y) 3 : Nat), .bool I], .int .i64 E]) ∧ Below w.heap.size w w') := k4
  have K5 : Hid (∀ w, GlobP w → GTH w → GG w → Calls Tryd.prog 15 #[] w fun e w' => e = .returned (.bool true) ∧ Below w.heap.size w w') := fun w h1 h2 h3 => g3_any w h1 h2 h3
  obtain ⟨w0, hw0⟩ : ∃ wq, wq = (w.alloc (.cells #[.int .u64 (limb (x) 0 : Nat), .int .u64 (limb (x) 1 : Nat), .int .u64 (limb (x) 2 : Nat), .int .u64 (limb (x) 3 : Nat), .int .u64 (limb (y) 0 : Nat), .int .u64 (limb (y) 1 : Nat), .int .u64 (limb (y) 2 : Nat), .int .u64 (limb (y) 3 : Nat), .bool i] 26)) := ⟨_, rfl⟩
  have H0 : Hid (OwnC w0 (w.heap.size) (ptL x y i)) ∧ Hid (Below w.heap.size w w0) ∧ Hid (GlobP w0) ∧ Hid (GTH w0) ∧ Hid (GG w0) ∧ Hid (Glob w0) := by
    rw [hw0]
    exact ⟨(OwnC.new' rfl), below_alloc0 (Below.refl _ _) _, (hG).call (below_alloc0 (Below.refl _ _) _), (hT).call (below_alloc0 (Below.refl _ _) _), (hQ).call (below_alloc0 (Below.refl _ _) _), (hR).call (below_alloc0 (Below.refl _ _) _)⟩
  obtain ⟨P0_0, W_0, G_0, T_0, Q_0, R_0⟩ := H0
  clear k1 k2 k3 k4 hG hT hQ hR
  have hE1 : (E == 0) = false := by simpa using hE
  go_enter Tryd.func6, Tryd.ntmps6
  go_upto_region 1 with fail
  rw [← hw0]
  clear hw0
  obtain ⟨fP0z, fP00, fP01, fP02, fP03, fP04, fP05, fP06, fP07, fP08, fP0f⟩ := (P0_0.out).pt
  go_wp2_with fail
  clear fP0z fP00 fP01 fP02 fP03 fP04 fP05 fP06 fP07 fP08 fP0f
  refine (K1.out _ (G_0.out)).mono ?_
  rintro e w1 ⟨rfl, hq⟩
  have P0_1 : Hid (OwnC w1 (w.heap.size) (ptL x y i)) := OwnC.call P0_0.out hq
  have W_1 : Hid (Below w.heap.size w w1) := below_call0 W_0.out hq
  have G_1 : Hid (GlobP w1) := G_0.out.call hq
  have T_1 : Hid (GTH w1) := T_0.out.call hq
  have Q_1 : Hid (GG w1) := Q_0.out.call hq
  have R_1 : Hid (Glob w1) := R_0.out.call hq
  clear hq P0_0 W_0 G_0 T_0 Q_0 R_0
  go_upto_region 2 with fail
  obtain ⟨fP0z, fP00, fP01, fP02, fP03, fP04, fP05, fP06, fP07, fP08, fP0f⟩ := (P0_1.out).pt
  go_wp2_with fail
  clear fP0z fP00 fP01 fP02 fP03 fP04 fP05 fP06 fP07 fP08 fP0f
  refine (K2.out _).mono ?_
  rintro e w2 ⟨rfl, hq⟩
  have P0_2 : Hid (OwnC w2 (w.heap.size) (ptL x y i)) := OwnC.call P0_1.out hq
  have W_2 : Hid (Below w.heap.size w w2) := below_call0 W_1.out hq
  have G_2 : Hid (GlobP w2) := G_1.out.call hq
  have T_2 : Hid (GTH w2) := T_1.out.call hq
  have Q_2 : Hid (GG w2) := Q_1.out.call hq
  have R_2 : Hid (Glob w2) := R_1.out.call hq
  clear hq P0_1 W_1 G_1 T_1 Q_1 R_1
  go_upto_region 3 with fail
  go_upto_region 3 with fail
  go_cut [9, 10] (fun vq9 vq10 wx => ∃ bk9, vq9 = .pointer (some ⟨bk9, 0, none⟩) ∧ vq10 = .int .i64 E ∧ w2.heap.size ≤ bk9 ∧ OwnC wx bk9 (ptL X Y I) ∧ Below w2.heap.size w2 wx)
  case first =>
    go_wp2_with fail
    refine (K3.out _ (R_2.out)).mono ?_
    rintro e wx0 ⟨rfl, hq0⟩
    go_wp2_with fail
    go_meet
    exact ⟨_, rfl, rfl, hq0.size, OwnC.new' rfl, below_alloc0 hq0 _⟩
  case rest =>
    obtain ⟨bk9, rfl, rfl, hle, hO, hB⟩ := hcut
    have P0_3 : Hid (OwnC wc (w.heap.size) (ptL x y i)) := OwnC.call P0_2.out hB
    have W_3 : Hid (Below w.heap.size w wc) := below_call0 W_2.out hB
    have G_3 : Hid (GlobP wc) := G_2.out.call hB
    have T_3 : Hid (GTH wc) := T_2.out.call hB
    have Q_3 : Hid (GG wc) := Q_2.out.call hB
    have R_3 : Hid (Glob wc) := R_2.out.call hB
    have V9_3 : Hid (OwnC wc bk9 (ptL X Y I)) := hO
    clear hB P0_2 W_2 G_2 T_2 Q_2 R_2
    clear hO hle
    generalize wc = w3 at P0_3 W_3 G_3 T_3 Q_3 R_3 V9_3 ⊢
    go_upto_region 4 with fail
    go_cut [11, 12] (fun vq11 vq12 wx => ∃ bk11, vq11 = .pointer (some ⟨bk11, 0, none⟩) ∧ vq12 = .int .i64 E ∧ w3.heap.size ≤ bk11 ∧ OwnC wx bk11 (ptL X Y I) ∧ Below w3.heap.size w3 wx)
    case first =>
      go_wp2_with fail
      refine (K4.out _).mono ?_
      rintro e wx0 ⟨rfl, hq0⟩
      go_wp2_with fail
      go_meet
      exact ⟨_, rfl, rfl, hq0.size, OwnC.new' rfl, below_alloc0 hq0 _⟩
    case rest =>
      obtain ⟨bk11, rfl, rfl, hle, hO, hB⟩ := hcut
      rename_i ur us ut uu uv uw ux uy uz uA uB uC uD uE uF uG uH uI uJ uK uL uM uN uO uP uQ uR uS uT uU uV uW uX uY uZ va vb vc vd ve vf vg vh vi vj vk vl vm vn vo vp vq vr vs vt vu vv vw vx vy vz vA vB vC vD vE vF Kq3 hKq3
      clear ur us ut uu uv uw ux uy uz uA uB uC uD uE uF uG uH uI uJ uK uL uM uN uO uP uQ uR uS uT uU uV uW uX uY uZ va vb vc vd ve vf vg vh vi vj vk vl vm vn vo vp vq vr vs vt vu vv vw vx vy vz vA vB vC vD vE vF
      have P0_4 : Hid (OwnC wc (w.heap.size) (ptL x y i)) := OwnC.call P0_3.out hB
      have W_4 : Hid (Below w.heap.size w wc) := below_call0 W_3.out hB
      have G_4 : Hid (GlobP wc) := G_3.out.call hB
      have T_4 : Hid (GTH wc) := T_3.out.call hB
      have Q_4 : Hid (GG wc) := Q_3.out.call hB
      have R_4 : Hid (Glob wc) := R_3.out.call hB
      have V9_4 : Hid (OwnC wc bk9 (ptL X Y I)) := OwnC.call V9_3.out hB
      have V11_4 : Hid (OwnC wc bk11 (ptL X Y I)) := hO
      clear hB P0_3 W_3 G_3 T_3 Q_3 R_3 V9_3
      clear hO hle
      generalize wc = w4 at P0_4 W_4 G_4 T_4 Q_4 R_4 V9_4 V11_4 ⊢
      go_upto_region 5 with fail
      obtain ⟨fV11z, fV110, fV111, fV112, fV113, fV114, fV115, fV116, fV117, fV118, fV11f⟩ := (V11_4.out).pt
      obtain ⟨fV9z, fV90, fV91, fV92, fV93, fV94, fV95, fV96, fV97, fV98, fV9f⟩ := (V9_4.out).pt
      go_upto_region 15 with fail
      clear fV11z fV110 fV111 fV112 fV113 fV114 fV115 fV116 fV117 fV118 fV11f fV9z fV90 fV91 fV92 fV93 fV94 fV95 fV96 fV97 fV98 fV9f
      go_wp2_with fail
      refine (K5.out _ (G_4.out) (T_4.out) (Q_4.out)).mono ?_
      rintro e w5 ⟨rfl, hq⟩
      have P0_5 : Hid (OwnC w5 (w.heap.size) (ptL x y i)) := OwnC.call P0_4.out hq
      have W_5 : Hid (Below w.heap.size w w5) := below_call0 W_4.out hq
      have G_5 : Hid (GlobP w5) := G_4.out.call hq
      have T_5 : Hid (GTH w5) := T_4.out.call hq
      have Q_5 : Hid (GG w5) := Q_4.out.call hq
      have R_5 : Hid (Glob w5) := R_4.out.call hq
      have V9_5 : Hid (OwnC w5 bk9 (ptL X Y I)) := OwnC.call V9_4.out hq
      have V11_5 : Hid (OwnC w5 bk11 (ptL X Y I)) := OwnC.call V11_4.out hq
      clear hq P0_4 W_4 G_4 T_4 Q_4 R_4 V9_4 V11_4
      go_wp2_with fail
      go_ret
      exact ⟨rfl, W_5.out⟩
set_option maxRecDepth 100000 in
set_option maxHeartbeats 4000000 in
theorem bytes_nh (x y X Y : Nat) (i I : Bool) (B s : ByteArray)
    (k1 : ∀ w, GlobP w → Calls Tryd.prog 20 #[.agg #[.int .u64 (limb (x) 0 : Nat), .int .u64 (limb (x) 1 : Nat), .int .u64 (limb (x) 2 : Nat), .int .u64 (limb (x) 3 : Nat), .int .u64 (limb (y) 0 : Nat), .int .u64 (limb (y) 1 : Nat), .int .u64 (limb (y) 2 : Nat), .int .u64 (limb (y) 3 : Nat), .bool i]] w fun e w' => e = .returned (.tuple #[.string B, .int .i64 30]) ∧ Below w.heap.size w w')
    (k2 : ∀ w, Calls Tryd.prog 21 #[.agg #[.int .u64 (limb (x) 0 : Nat), .int .u64 (limb (x) 1 : Nat), .int .u64 (limb (x) 2 : Nat), .int .u64 (limb (x) 3 : Nat), .int .u64 (limb (y) 0 : Nat), .int .u64 (limb (y) 1 : Nat), .int .u64 (limb (y) 2 : Nat), .int .u64 (limb (y) 3 : Nat), .bool i]] w fun e w' => e = .returned (.tuple #[.string B, .int .i64 30]) ∧ Below w.heap.size w w')
    (k3 : ∀ w, Glob w → Calls Tryd.prog 22 #[.string s] w fun e w' => e = .returned (.tuple #[.agg #[.int .u64 (limb (X) 0 : Nat), .int .u64 (limb (X) 1 : Nat), .int .u64 (limb (X) 2 : Nat), .int .u64 (limb (X) 3 : Nat), .int .u64 (limb (Y) 0 : Nat), .int .u64 (limb (Y) 1 : Nat), .int .u64 (limb (Y) 2 : Nat), .int .u64 (limb (Y) 3 : Nat), .bool I], .int .i64 0]) ∧ Below w.heap.size w w')
    (k4 : ∀ w, Calls Tryd.prog 23 #[.string s] w fun e w' => e = .returned (.tuple #[.agg #[.int .u64 (limb (X) 0 : Nat), .int .u64 (limb (X) 1 : Nat), .int .u64 (limb (X) 2 : Nat), .int .u64 (limb (X) 3 : Nat), .int .u64 (limb (Y) 0 : Nat), .int .u64 (limb (Y) 1 : Nat), .int .u64 (limb (Y) 2 : Nat), .int .u64 (limb (Y) 3 : Nat), .bool I], .int .i64 0]) ∧ Below w.heap.size w w')
    (k5 : ∀ w, GlobP w → Calls Tryd.prog 20 #[.agg #[.int .u64 (limb (X) 0 : Nat), .int .u64 (limb (X) 1 : Nat), .int .u64 (limb (X) 2 : Nat), .int .u64 (limb (X) 3 : Nat), .int .u64 (limb (Y) 0 : Nat), .int .u64 (limb (Y) 1 : Nat), .int .u64 (limb (Y) 2 : Nat), .int .u64 (limb (Y) 3 : Nat), .bool I]] w fun e w' => e = .returned (.tuple #[.string s, .int .i64 0]) ∧ Below w.heap.size w w')
    (w : World) (hG : GlobP w) (hT : GTH w) (hQ : GG w) (hR : Glob w) : Calls Tryd.prog 6 #[.agg #[.int .u64 (limb (x) 0 : Nat), .int .u64 (limb (x) 1 : Nat), .int .u64 (limb (x) 2 : Nat), .int .u64 (limb (x) 3 : Nat), .int .u64 (limb (y) 0 : Nat), .int .u64 (limb (y) 1 : Nat), .int .u64 (limb (y) 2 : Nat), .int .u64 (limb (y) 3 : Nat), .bool i], .string s] w fun e w' => e = .returned (.bool true) ∧ Below w.heap.size w w' := by
  have K1 : Hid (∀ w, GlobP w → Calls Tryd.prog 20 #[.agg #[.int .u64 (limb (x) 0 : Nat), .int .u64 (limb (x) 1 : Nat), .int .u64 (limb (x) 2 : Nat), .int .u64 (limb (x) 3 : Nat), .int .u64 (limb (y) 0 : Nat), .int .u64 (limb (y) 1 : Nat), .int .u64 (limb (y) 2 : Nat), .int .u64 (limb (y) 3 : Nat), .bool i]] w fun e w' => e = .returned (.tuple #[.string B, .int .i64 30]) ∧ Below w.heap.size w w') := k1
  have K2 : Hid (∀ w, Calls Tryd.prog 21 #[.agg #[.int .u64 (limb (x) 0 : Nat), .int .u64 (limb (x) 1 : Nat), .int .u64 (limb (x) 2 : Nat), .int .u64 (limb (x) 3 : Nat), .int .u64 (limb (y) 0 : Nat), .int .u64 (limb (y) 1 : Nat), .int .u64 (limb (y) 2 : Nat), .int .u64 (limb (y) 3 : Nat), .bool i]] w fun e w' => e = .returned (.tuple #[.string B, .int .i64 30]) ∧ Below w.heap.size w w') := k2
  have K3 : Hid (∀ w, Glob w → Calls Tryd.prog 22 #[.string s] w fun e w' => e = .returned (.tuple #[.agg #[.int .u64 (limb (X) 0 : Nat), .int .u64 (limb (X) 1 : Nat), .int .u64 (limb (X) 2 : Nat), .int .u64 (limb (X) 3 : Nat), .int .u64 (limb (Y) 0 : Nat), .int .u64 (limb (Y) 1 : Nat), .int .u64 (limb (Y) 2 : Nat), .int .u64 (limb (Y) 3 : Nat), .bool I], .int .i64 0]) ∧ Below w.heap.size w w') := k3
  have K4 : Hid (∀ w, Calls Tryd.prog 23 #[.string s] w fun e w' => e = .returned (.tuple #[.agg #[.int .u64 (limb (X) 0 : Nat), .int .u64 (limb (X) 1 : Nat), .int .u64 (limb (X) 2 : Nat), .int .u64 (limb (X) 3 : Nat), .int .u64 (limb (Y) 0 : Nat), .int .u64 (limb (Y) 1 : Nat), .int .u64 (limb (Y) 2 : Nat), .int .u64 (limb (Y) 3 : Nat), .bool I], .int .i64 0]) ∧ Below w.heap.size w w') := k4
  have K5 : Hid (∀ w, GlobP w → Calls Tryd.prog 20 #[.agg #[.int .u64 (limb (X) 0 : Nat), .int .u64 (limb (X) 1 : Nat), .int .u64 (limb (X) 2 : Nat), .int .u64 (limb (X) 3 : Nat), .int .u64 (limb (Y) 0 : Nat), .int .u64 (limb (Y) 1 : Nat), .int .u64 (limb (Y) 2 : Nat), .int .u64 (limb (Y) 3 : Nat), .bool I]] w fun e w' => e = .returned (.tuple #[.string s, .int .i64 0]) ∧ Below w.heap.size w w') := k5
  have K6 : Hid (∀ w, GlobP w → GTH w → GG w → Calls Tryd.prog 15 #[] w fun e w' => e = .returned (.bool true) ∧ Below w.heap.size w w') := fun w h1 h2 h3 => g3_any w h1 h2 h3
  obtain ⟨w0, hw0⟩ : ∃ wq, wq = (w.alloc (.cells #[.int .u64 (limb (x) 0 : Nat), .int .u64 (limb (x) 1 : Nat), .int .u64 (limb (x) 2 : Nat), .int .u64 (limb (x) 3 : Nat), .int .u64 (limb (y) 0 : Nat), .int .u64 (limb (y) 1 : Nat), .int .u64 (limb (y) 2 : Nat), .int .u64 (limb (y) 3 : Nat), .bool i] 26)) := ⟨_, rfl⟩
  have H0 : Hid (OwnC w0 (w.heap.size) (ptL x y i)) ∧ Hid (Below w.heap.size w w0) ∧ Hid (GlobP w0) ∧ Hid (GTH w0) ∧ Hid (GG w0) ∧ Hid (Glob w0) := by
    rw [hw0]
    exact ⟨(OwnC.new' rfl), below_alloc0 (Below.refl _ _) _, (hG).call (below_alloc0 (Below.refl _ _) _), (hT).call (below_alloc0 (Below.refl _ _) _), (hQ).call (below_alloc0 (Below.refl _ _) _), (hR).call (below_alloc0 (Below.refl _ _) _)⟩
  obtain ⟨P0_0, W_0, G_0, T_0, Q_0, R_0⟩ := H0
  clear k1 k2 k3 k4 k5 hG hT hQ hR
  go_enter Tryd.func6, Tryd.ntmps6
  go_upto_region 1 with fail
  rw [← hw0]
  clear hw0
  obtain ⟨fP0z, fP00, fP01, fP02, fP03, fP04, fP05, fP06, fP07, fP08, fP0f⟩ := (P0_0.out).pt
  go_wp2_with fail
  clear fP0z fP00 fP01 fP02 fP03 fP04 fP05 fP06 fP07 fP08 fP0f
  refine (K1.out _ (G_0.out)).mono ?_
  rintro e w1 ⟨rfl, hq⟩
  have P0_1 : Hid (OwnC w1 (w.heap.size) (ptL x y i)) := OwnC.call P0_0.out hq
  have W_1 : Hid (Below w.heap.size w w1) := below_call0 W_0.out hq
  have G_1 : Hid (GlobP w1) := G_0.out.call hq
  have T_1 : Hid (GTH w1) := T_0.out.call hq
  have Q_1 : Hid (GG w1) := Q_0.out.call hq
  have R_1 : Hid (Glob w1) := R_0.out.call hq
  clear hq P0_0 W_0 G_0 T_0 Q_0 R_0
  go_upto_region 2 with fail
  obtain ⟨fP0z, fP00, fP01, fP02, fP03, fP04, fP05, fP06, fP07, fP08, fP0f⟩ := (P0_1.out).pt
  go_wp2_with fail
  clear fP0z fP00 fP01 fP02 fP03 fP04 fP05 fP06 fP07 fP08 fP0f
  refine (K2.out _).mono ?_
  rintro e w2 ⟨rfl, hq⟩
  have P0_2 : Hid (OwnC w2 (w.heap.size) (ptL x y i)) := OwnC.call P0_1.out hq
  have W_2 : Hid (Below w.heap.size w w2) := below_call0 W_1.out hq
  have G_2 : Hid (GlobP w2) := G_1.out.call hq
  have T_2 : Hid (GTH w2) := T_1.out.call hq
  have Q_2 : Hid (GG w2) := Q_1.out.call hq
  have R_2 : Hid (Glob w2) := R_1.out.call hq
  clear hq P0_1 W_1 G_1 T_1 Q_1 R_1
  go_upto_region 3 with fail
  go_upto_region 3 with fail
  go_cut [9, 10] (fun vq9 vq10 wx => ∃ bk9, vq9 = .pointer (some ⟨bk9, 0, none⟩) ∧ vq10 = .int .i64 0 ∧ w2.heap.size ≤ bk9 ∧ OwnC wx bk9 (ptL X Y I) ∧ Below w2.heap.size w2 wx)
  case first =>
    go_wp2_with fail
    refine (K3.out _ (R_2.out)).mono ?_
    rintro e wx0 ⟨rfl, hq0⟩
    go_wp2_with fail
    go_meet
    exact ⟨_, rfl, rfl, hq0.size, OwnC.new' rfl, below_alloc0 hq0 _⟩
  case rest =>
    obtain ⟨bk9, rfl, rfl, hle, hO, hB⟩ := hcut
    have P0_3 : Hid (OwnC wc (w.heap.size) (ptL x y i)) := OwnC.call P0_2.out hB
    have W_3 : Hid (Below w.heap.size w wc) := below_call0 W_2.out hB
    have G_3 : Hid (GlobP wc) := G_2.out.call hB
    have T_3 : Hid (GTH wc) := T_2.out.call hB
    have Q_3 : Hid (GG wc) := Q_2.out.call hB
    have R_3 : Hid (Glob wc) := R_2.out.call hB
    have V9_3 : Hid (OwnC wc bk9 (ptL X Y I)) := hO
    clear hB P0_2 W_2 G_2 T_2 Q_2 R_2
    clear hO hle
    generalize wc = w3 at P0_3 W_3 G_3 T_3 Q_3 R_3 V9_3 ⊢
    go_upto_region 4 with fail
    go_cut [11, 12] (fun vq11 vq12 wx => ∃ bk11, vq11 = .pointer (some ⟨bk11, 0, none⟩) ∧ vq12 = .int .i64 0 ∧ w3.heap.size ≤ bk11 ∧ OwnC wx bk11 (ptL X Y I) ∧ Below w3.heap.size w3 wx)
    case first =>
      go_wp2_with fail
      refine (K4.out _).mono ?_
      rintro e wx0 ⟨rfl, hq0⟩
      go_wp2_with fail
      go_meet
      exact ⟨_, rfl, rfl, hq0.size, OwnC.new' rfl, below_alloc0 hq0 _⟩
    case rest =>
      obtain ⟨bk11, rfl, rfl, hle, hO, hB⟩ := hcut
      rename_i ur us ut uu uv uw ux uy uz uA uB uC uD uE uF uG uH uI uJ uK uL uM uN uO uP uQ uR uS uT uU uV uW uX uY uZ va vb vc vd ve vf vg vh vi vj vk vl vm vn vo vp vq vr vs vt vu vv vw vx vy vz vA vB vC vD vE vF Kq3 hKq3
      clear ur us ut uu uv uw ux uy uz uA uB uC uD uE uF uG uH uI uJ uK uL uM uN uO uP uQ uR uS uT uU uV uW uX uY uZ va vb vc vd ve vf vg vh vi vj vk vl vm vn vo vp vq vr vs vt vu vv vw vx vy vz vA vB vC vD vE vF
      have P0_4 : Hid (OwnC wc (w.heap.size) (ptL x y i)) := OwnC.call P0_3.out hB
      have W_4 : Hid (Below w.heap.size w wc) := below_call0 W_3.out hB
      have G_4 : Hid (GlobP wc) := G_3.out.call hB
      have T_4 : Hid (GTH wc) := T_3.out.call hB
      have Q_4 : Hid (GG wc) := Q_3.out.call hB
      have R_4 : Hid (Glob wc) := R_3.out.call hB
      have V9_4 : Hid (OwnC wc bk9 (ptL X Y I)) := OwnC.call V9_3.out hB
      have V11_4 : Hid (OwnC wc bk11 (ptL X Y I)) := hO
      clear hB P0_3 W_3 G_3 T_3 Q_3 R_3 V9_3
      clear hO hle
      generalize wc = w4 at P0_4 W_4 G_4 T_4 Q_4 R_4 V9_4 V11_4 ⊢
      go_upto_region 5 with fail
      obtain ⟨fV11z, fV110, fV111, fV112, fV113, fV114, fV115, fV116, fV117, fV118, fV11f⟩ := (V11_4.out).pt
      obtain ⟨fV9z, fV90, fV91, fV92, fV93, fV94, fV95, fV96, fV97, fV98, fV9f⟩ := (V9_4.out).pt
      go_upto_region 12 with fail
      clear fV11z fV110 fV111 fV112 fV113 fV114 fV115 fV116 fV117 fV118 fV11f fV9z fV90 fV91 fV92 fV93 fV94 fV95 fV96 fV97 fV98 fV9f
      obtain ⟨fV9z, fV90, fV91, fV92, fV93, fV94, fV95, fV96, fV97, fV98, fV9f⟩ := (V9_4.out).pt
      go_wp2_with fail
      clear fV9z fV90 fV91 fV92 fV93 fV94 fV95 fV96 fV97 fV98 fV9f
      refine (K5.out _ (G_4.out)).mono ?_
      rintro e w5 ⟨rfl, hq⟩
      have P0_5 : Hid (OwnC w5 (w.heap.size) (ptL x y i)) := OwnC.call P0_4.out hq
      have W_5 : Hid (Below w.heap.size w w5) := below_call0 W_4.out hq
      have G_5 : Hid (GlobP w5) := G_4.out.call hq
      have T_5 : Hid (GTH w5) := T_4.out.call hq
      have Q_5 : Hid (GG w5) := Q_4.out.call hq
      have R_5 : Hid (Glob w5) := R_4.out.call hq
      have V9_5 : Hid (OwnC w5 bk9 (ptL X Y I)) := OwnC.call V9_4.out hq
      have V11_5 : Hid (OwnC w5 bk11 (ptL X Y I)) := OwnC.call V11_4.out hq
      clear hq P0_4 W_4 G_4 T_4 Q_4 R_4 V9_4 V11_4
      go_upto_region 15 with fail
      go_wp2_with fail
      refine (K6.out _ (G_5.out) (T_5.out) (Q_5.out)).mono ?_
      rintro e w6 ⟨rfl, hq⟩
      have P0_6 : Hid (OwnC w6 (w.heap.size) (ptL x y i)) := OwnC.call P0_5.out hq
      have W_6 : Hid (Below w.heap.size w w6) := below_call0 W_5.out hq
      have G_6 : Hid (GlobP w6) := G_5.out.call hq
      have T_6 : Hid (GTH w6) := T_5.out.call hq
      have Q_6 : Hid (GG w6) := Q_5.out.call hq
      have R_6 : Hid (Glob w6) := R_5.out.call hq
      have V9_6 : Hid (OwnC w6 bk9 (ptL X Y I)) := OwnC.call V9_5.out hq
      have V11_6 : Hid (OwnC w6 bk11 (ptL X Y I)) := OwnC.call V11_5.out hq
      clear hq P0_5 W_5 G_5 T_5 Q_5 R_5 V9_5 V11_5
      go_wp2_with fail
      go_ret
      exact ⟨rfl, W_6.out⟩
set_option maxRecDepth 100000 in
set_option maxHeartbeats 4000000 in
theorem bytes_on (x y X Y : Nat) (i I : Bool) (B s : ByteArray) (E : Int) (hE : ¬ E = 0)
    (k1 : ∀ w, GlobP w → Calls Tryd.prog 20 #[.agg #[.int .u64 (limb (x) 0 : Nat), .int .u64 (limb (x) 1 : Nat), .int .u64 (limb (x) 2 : Nat), .int .u64 (limb (x) 3 : Nat), .int .u64 (limb (y) 0 : Nat), .int .u64 (limb (y) 1 : Nat), .int .u64 (limb (y) 2 : Nat), .int .u64 (limb (y) 3 : Nat), .bool i]] w fun e w' => e = .returned (.tuple #[.string B, .int .i64 0]) ∧ Below w.heap.size w w')
    (k2 : ∀ w, Calls Tryd.prog 21 #[.agg #[.int .u64 (limb (x) 0 : Nat), .int .u64 (limb (x) 1 : Nat), .int .u64 (limb (x) 2 : Nat), .int .u64 (limb (x) 3 : Nat), .int .u64 (limb (y) 0 : Nat), .int .u64 (limb (y) 1 : Nat), .int .u64 (limb (y) 2 : Nat), .int .u64 (limb (y) 3 : Nat), .bool i]] w fun e w' => e = .returned (.tuple #[.string B, .int .i64 0]) ∧ Below w.heap.size w w')
    (k3 : ∀ w, Glob w → Calls Tryd.prog 22 #[.string s] w fun e w' => e = .returned (.tuple #[.agg #[.int .u64 (limb (X) 0 : Nat), .int .u64 (limb (X) 1 : Nat), .int .u64 (limb (X) 2 : Nat), .int .u64 (limb (X) 3 : Nat), .int .u64 (limb (Y) 0 : Nat), .int .u64 (limb (Y) 1 : Nat), .int .u64 (limb (Y) 2 : Nat), .int .u64 (limb (Y) 3 : Nat), .bool I], .int .i64 E]) ∧ Below w.heap.size w w')
    (k4 : ∀ w, Calls Tryd.prog 23 #[.string s] w fun e w' => e = .returned (.tuple #[.agg #[.int .u64 (limb (X) 0 : Nat), .int .u64 (limb (X) 1 : Nat), .int .u64 (limb (X) 2 : Nat), .int .u64 (limb (X) 3 : Nat), .int .u64 (limb (Y) 0 : Nat), .int .u64 (limb (Y) 1 : Nat), .int .u64 (limb (Y) 2 : Nat), .int .u64 (limb (Y) 3 : Nat), .bool I], .int .i64 E]) ∧ Below w.heap.size w w')
    (k6 : ∀ w, Glob w → Calls Tryd.prog 22 #[.string B] w fun e w' => e = .returned (.tuple #[.agg #[.int .u64 (limb (x) 0 : Nat), .int .u64 (limb (x) 1 : Nat), .int .u64 (limb (x) 2 : Nat), .int .u64 (limb (x) 3 : Nat), .int .u64 (limb (y) 0 : Nat), .int .u64 (limb (y) 1 : Nat), .int .u64 (limb (y) 2 : Nat), .int .u64 (limb (y) 3 : Nat), .bool i], .int .i64 0]) ∧ Below w.heap.size w w')
    (w : World) (hG : GlobP w) (hT : GTH w) (hQ : GG w) (hR : Glob w) : Calls Tryd.prog 6 #[.agg #[.int .u64 (limb (x) 0 : Nat), .int .u64 (limb (x) 1 : Nat), .int .u64 (limb (x) 2 : Nat), .int .u64 (limb (x) 3 : Nat), .int .u64 (limb (y) 0 : Nat), .int .u64 (limb (y) 1 : Nat), .int .u64 (limb (y) 2 : Nat), .int .u64 (limb (y) 3 : Nat), .bool i], .string s] w fun e w' => e = .returned (.bool true) ∧ Below w.heap.size w w' := by
  have K1 : Hid (∀ w, GlobP w → Calls Tryd.prog 20 #[.agg #[.int .u64 (limb (x) 0 : Nat), .int .u64 (limb (x) 1 : Nat), .int .u64 (limb (x) 2 : Nat), .int .u64 (limb (x) 3 : Nat), .int .u64 (limb (y) 0 : Nat), .int .u64 (limb (y) 1 : Nat), .int .u64 (limb (y) 2 : Nat), .int .u64 (limb (y) 3 : Nat), .bool i]] w fun e w' => e = .returned (.tuple #[.string B, .int .i64 0]) ∧ Below w.heap.size w w') := k1
  have K2 : Hid (∀ w, Calls Tryd.prog 21 #[.agg #[.int .u64 (limb (x) 0 : Nat), .int .u64 (limb (x) 1 : Nat), .int .u64 (limb (x) 2 : Nat), .int .u64 (limb (x) 3 : Nat), .int .u64 (limb (y) 0 : Nat), .int .u64 (limb (y) 1 : Nat), .int .u64 (limb (y) 2 : Nat), .int .u64 (limb (y) 3 : Nat), .bool i]] w fun e w' => e = .returned (.tuple #[.string B, .int .i64 0]) ∧ Below w.heap.size w w') := k2
  have K3 : Hid (∀ w, Glob w → Calls Tryd.prog 22 #[.string s] w fun e w' => e = .returned (.tuple #[.agg #[.int .u64 (limb (X) 0 : Nat), .int .u64 (limb (X) 1 : Nat), .int .u64 (limb (X) 2 : Nat), .int .u64 (limb (X) 3 : Nat), .int .u64 (limb (Y) 0 : Nat), .int .u64 (limb (Y) 1 : Nat), .int .u64 (limb (Y) 2 : Nat), .int .u64 (limb (Y) 3 : Nat), .bool I], .int .i64 E]) ∧ Below w.heap.size w w') := k3
  have K4 : Hid (∀ w, Calls Tryd.prog 23 #[.string s] w fun e w' => e = .returned (.tuple #[.agg #[.int .u64 (limb (X) 0 : Nat), .int .u64 (limb (X) 1 : Nat), .int .u64 (limb (X) 2 : Nat), .int .u64 (limb (X) 3 : Nat), .int .u64 (limb (Y) 0 : Nat), .int .u64 (limb (Y) 1 : Nat), .int .u64 (limb (Y) 2 : Nat), .int .u64 (limb (Y) 3 : Nat), .bool I], .int .i64 E]) ∧ Below w.heap.size w w') := k4
  have K5 : Hid (∀ w, Glob w → Calls Tryd.prog 22 #[.string B] w fun e w' => e = .returned (.tuple #[.agg #[.int .u64 (limb (x) 0 : Nat), .int .u64 (limb (x) 1 : Nat), .int .u64 (limb (x) 2 : Nat), .int .u64 (limb (x) 3 : Nat), .int .u64 (limb (y) 0 : Nat), .int .u64 (limb (y) 1 : Nat), .int .u64 (limb (y) 2 : Nat), .int .u64 (limb (y) 3 : Nat), .bool i], .int .i64 0]) ∧ Below w.heap.size w w') := k6
  have K6 : Hid (∀ w, GlobP w → GTH w → GG w → Calls Tryd.prog 15 #[] w fun e w' => e = .returned (.bool true) ∧ Below w.heap.size w w') := fun w h1 h2 h3 => g3_any w h1 h2 h3
  obtain ⟨w0, hw0⟩ : ∃ wq, wq = (w.alloc (.cells #[.int .u64 (limb (x) 0 : Nat), .int .u64 (limb (x) 1 : Nat), .int .u64 (limb (x) 2 : Nat), .int .u64 (limb (x) 3 : Nat), .int .u64 (limb (y) 0 : Nat), .int .u64 (limb (y) 1 : Nat), .int .u64 (limb (y) 2 : Nat), .int .u64 (limb (y) 3 : Nat), .bool i] 26)) := ⟨_, rfl⟩
  have H0 : Hid (OwnC w0 (w.heap.size) (ptL x y i)) ∧ Hid (Below w.heap.size w w0) ∧ Hid (GlobP w0) ∧ Hid (GTH w0) ∧ Hid (GG w0) ∧ Hid (Glob w0) := by
    rw [hw0]
    exact ⟨(OwnC.new' rfl), below_alloc0 (Below.refl _ _) _, (hG).call (below_alloc0 (Below.refl _ _) _), (hT).call (below_alloc0 (Below.refl _ _) _), (hQ).call (below_alloc0 (Below.refl _ _) _), (hR).call (below_alloc0 (Below.refl _ _) _)⟩
  obtain ⟨P0_0, W_0, G_0, T_0, Q_0, R_0⟩ := H0
  clear k1 k2 k3 k4 k6 hG hT hQ hR
  have hE1 : (E == 0) = false := by simpa using hE
  go_enter Tryd.func6, Tryd.ntmps6
  go_upto_region 1 with fail
  rw [← hw0]
  clear hw0
  obtain ⟨fP0z, fP00, fP01, fP02, fP03, fP04, fP05, fP06, fP07, fP08, fP0f⟩ := (P0_0.out).pt
  go_wp2_with fail
  clear fP0z fP00 fP01 fP02 fP03 fP04 fP05 fP06 fP07 fP08 fP0f
  refine (K1.out _ (G_0.out)).mono ?_
  rintro e w1 ⟨rfl, hq⟩
  have P0_1 : Hid (OwnC w1 (w.heap.size) (ptL x y i)) := OwnC.call P0_0.out hq
  have W_1 : Hid (Below w.heap.size w w1) := below_call0 W_0.out hq
  have G_1 : Hid (GlobP w1) := G_0.out.call hq
  have T_1 : Hid (GTH w1) := T_0.out.call hq
  have Q_1 : Hid (GG w1) := Q_0.out.call hq
  have R_1 : Hid (Glob w1) := R_0.out.call hq
  clear hq P0_0 W_0 G_0 T_0 Q_0 R_0
  go_upto_region 2 with fail
  obtain ⟨fP0z, fP00, fP01, fP02, fP03, fP04, fP05, fP06, fP07, fP08, fP0f⟩ := (P0_1.out).pt
  go_wp2_with fail
  clear fP0z fP00 fP01 fP02 fP03 fP04 fP05 fP06 fP07 fP08 fP0f
  refine (K2.out _).mono ?_
  rintro e w2 ⟨rfl, hq⟩
  have P0_2 : Hid (OwnC w2 (w.heap.size) (ptL x y i)) := OwnC.call P0_1.out hq
  have W_2 : Hid (Below w.heap.size w w2) := below_call0 W_1.out hq
  have G_2 : Hid (GlobP w2) := G_1.out.call hq
  have T_2 : Hid (GTH w2) := T_1.out.call hq
  have Q_2 : Hid (GG w2) := Q_1.out.call hq
  have R_2 : Hid (Glob w2) := R_1.out.call hq
  clear hq P0_1 W_1 G_1 T_1 Q_1 R_1
  go_upto_region 3 with fail
  go_upto_region 3 with fail
  go_cut [9, 10] (fun vq9 vq10 wx => ∃ bk9, vq9 = .pointer (some ⟨bk9, 0, none⟩) ∧ vq10 = .int .i64 E ∧ w2.heap.size ≤ bk9 ∧ OwnC wx bk9 (ptL X Y I) ∧ Below w2.heap.size w2 wx)
  case first =>
    go_wp2_with fail
    refine (K3.out _ (R_2.out)).mono ?_
    rintro e wx0 ⟨rfl, hq0⟩
    go_wp2_with fail
    go_meet
    exact ⟨_, rfl, rfl, hq0.size, OwnC.new' rfl, below_alloc0 hq0 _⟩
  case rest =>
    obtain ⟨bk9, rfl, rfl, hle, hO, hB⟩ := hcut
    have P0_3 : Hid (OwnC wc (w.heap.size) (ptL x y i)) := OwnC.call P0_2.out hB
    have W_3 : Hid (Below w.heap.size w wc) := below_call0 W_2.out hB
    have G_3 : Hid (GlobP wc) := G_2.out.call hB
    have T_3 : Hid (GTH wc) := T_2.out.call hB
    have Q_3 : Hid (GG wc) := Q_2.out.call hB
    have R_3 : Hid (Glob wc) := R_2.out.call hB
    have V9_3 : Hid (OwnC wc bk9 (ptL X Y I)) := hO
    clear hB P0_2 W_2 G_2 T_2 Q_2 R_2
    clear hO hle
    generalize wc = w3 at P0_3 W_3 G_3 T_3 Q_3 R_3 V9_3 ⊢
    go_upto_region 4 with fail
    go_cut [11, 12] (fun vq11 vq12 wx => ∃ bk11, vq11 = .pointer (some ⟨bk11, 0, none⟩) ∧ vq12 = .int .i64 E ∧ w3.heap.size ≤ bk11 ∧ OwnC wx bk11 (ptL X Y I) ∧ Below w3.heap.size w3 wx)
    case first =>
      go_wp2_with fail
      refine (K4.out _).mono ?_
      rintro e wx0 ⟨rfl, hq0⟩
      go_wp2_with fail
      go_meet
      exact ⟨_, rfl, rfl, hq0.size, OwnC.new' rfl, below_alloc0 hq0 _⟩
    case rest =>
      obtain ⟨bk11, rfl, rfl, hle, hO, hB⟩ := hcut
      rename_i ur us ut uu uv uw ux uy uz uA uB uC uD uE uF uG uH uI uJ uK uL uM uN uO uP uQ uR uS uT uU uV uW uX uY uZ va vb vc vd ve vf vg vh vi vj vk vl vm vn vo vp vq vr vs vt vu vv vw vx vy vz vA vB vC vD vE vF Kq3 hKq3
      clear ur us ut uu uv uw ux uy uz uA uB uC uD uE uF uG uH uI uJ uK uL uM uN uO uP uQ uR uS uT uU uV uW uX uY uZ va vb vc vd ve vf vg vh vi vj vk vl vm vn vo vp vq vr vs vt vu vv vw vx vy vz vA vB vC vD vE vF
      have P0_4 : Hid (OwnC wc (w.heap.size) (ptL x y i)) := OwnC.call P0_3.out hB
      have W_4 : Hid (Below w.heap.size w wc) := below_call0 W_3.out hB
      have G_4 : Hid (GlobP wc) := G_3.out.call hB
      have T_4 : Hid (GTH wc) := T_3.out.call hB
      have Q_4 : Hid (GG wc) := Q_3.out.call hB
      have R_4 : Hid (Glob wc) := R_3.out.call hB
      have V9_4 : Hid (OwnC wc bk9 (ptL X Y I)) := OwnC.call V9_3.out hB
      have V11_4 : Hid (OwnC wc bk11 (ptL X Y I)) := hO
      clear hB P0_3 W_3 G_3 T_3 Q_3 R_3 V9_3
      clear hO hle
      generalize wc = w4 at P0_4 W_4 G_4 T_4 Q_4 R_4 V9_4 V11_4 ⊢
      go_upto_region 5 with fail
      obtain ⟨fV11z, fV110, fV111, fV112, fV113, fV114, fV115, fV116, fV117, fV118, fV11f⟩ := (V11_4.out).pt
      obtain ⟨fV9z, fV90, fV91, fV92, fV93, fV94, fV95, fV96, fV97, fV98, fV9f⟩ := (V9_4.out).pt
      go_upto_region 8 with fail
      clear fV11z fV110 fV111 fV112 fV113 fV114 fV115 fV116 fV117 fV118 fV11f fV9z fV90 fV91 fV92 fV93 fV94 fV95 fV96 fV97 fV98 fV9f
      go_upto_region 8 with fail
      go_cut [13, 14] (fun vq13 vq14 wx => ∃ bk13, vq13 = .pointer (some ⟨bk13, 0, none⟩) ∧ vq14 = .int .i64 0 ∧ w4.heap.size ≤ bk13 ∧ OwnC wx bk13 (ptL x y i) ∧ Below w4.heap.size w4 wx)
      case first =>
        go_wp2_with fail
        refine (K5.out _ (R_4.out)).mono ?_
        rintro e wx0 ⟨rfl, hq0⟩
        go_wp2_with fail
        go_meet
        exact ⟨_, rfl, rfl, hq0.size, OwnC.new' rfl, below_alloc0 hq0 _⟩
      case rest =>
        obtain ⟨bk13, rfl, rfl, hle, hO, hB⟩ := hcut
        have P0_5 : Hid (OwnC wc (w.heap.size) (ptL x y i)) := OwnC.call P0_4.out hB
        have W_5 : Hid (Below w.heap.size w wc) := below_call0 W_4.out hB
        have G_5 : Hid (GlobP wc) := G_4.out.call hB
        have T_5 : Hid (GTH wc) := T_4.out.call hB
        have Q_5 : Hid (GG wc) := Q_4.out.call hB
        have R_5 : Hid (Glob wc) := R_4.out.call hB
        have V9_5 : Hid (OwnC wc bk9 (ptL X Y I)) := OwnC.call V9_4.out hB
        have V11_5 : Hid (OwnC wc bk11 (ptL X Y I)) := OwnC.call V11_4.out hB
        have V13_5 : Hid (OwnC wc bk13 (ptL x y i)) := hO
        clear hB P0_4 W_4 G_4 T_4 Q_4 R_4 V9_4 V11_4
        clear hO hle
        generalize wc = w5 at P0_5 W_5 G_5 T_5 Q_5 R_5 V9_5 V11_5 V13_5 ⊢
        go_upto_region 9 with fail
        obtain ⟨fP0z, fP00, fP01, fP02, fP03, fP04, fP05, fP06, fP07, fP08, fP0f⟩ := (P0_5.out).pt
        obtain ⟨fV13z, fV130, fV131, fV132, fV133, fV134, fV135, fV136, fV137, fV138, fV13f⟩ := (V13_5.out).pt
        go_upto_region 15 with fail
        clear fP0z fP00 fP01 fP02 fP03 fP04 fP05 fP06 fP07 fP08 fP0f fV13z fV130 fV131 fV132 fV133 fV134 fV135 fV136 fV137 fV138 fV13f
        go_wp2_with fail
        refine (K6.out _ (G_5.out) (T_5.out) (Q_5.out)).mono ?_
        rintro e w6 ⟨rfl, hq⟩
        have P0_6 : Hid (OwnC w6 (w.heap.size) (ptL x y i)) := OwnC.call P0_5.out hq
        have W_6 : Hid (Below w.heap.size w w6) := below_call0 W_5.out hq
        have G_6 : Hid (GlobP w6) := G_5.out.call hq
        have T_6 : Hid (GTH w6) := T_5.out.call hq
        have Q_6 : Hid (GG w6) := Q_5.out.call hq
        have R_6 : Hid (Glob w6) := R_5.out.call hq
        have V9_6 : Hid (OwnC w6 bk9 (ptL X Y I)) := OwnC.call V9_5.out hq
        have V11_6 : Hid (OwnC w6 bk11 (ptL X Y I)) := OwnC.call V11_5.out hq
        have V13_6 : Hid (OwnC w6 bk13 (ptL x y i)) := OwnC.call V13_5.out hq
        clear hq P0_5 W_5 G_5 T_5 Q_5 R_5 V9_5 V11_5 V13_5
        go_wp2_with fail
        go_ret
        exact ⟨rfl, W_6.out⟩
set_option maxRecDepth 100000 in
set_option maxHeartbeats 4000000 in
theorem bytes_oh (x y X Y : Nat) (i I : Bool) (B s : ByteArray)
    (k1 : ∀ w, GlobP w → Calls Tryd.prog 20 #[.agg #[.int .u64 (limb (x) 0 : Nat), .int .u64 (limb (x) 1 : Nat), .int .u64 (limb (x) 2 : Nat), .int .u64 (limb (x) 3 : Nat), .int .u64 (limb (y) 0 : Nat), .int .u64 (limb (y) 1 : Nat), .int .u64 (limb (y) 2 : Nat), .int .u64 (limb (y) 3 : Nat), .bool i]] w fun e w' => e = .returned (.tuple #[.string B, .int .i64 0]) ∧ Below w.heap.size w w')
    (k2 : ∀ w, Calls Tryd.prog 21 #[.agg #[.int .u64 (limb (x) 0 : Nat), .int .u64 (limb (x) 1 : Nat), .int .u64 (limb (x) 2 : Nat), .int .u64 (limb (x) 3 : Nat), .int .u64 (limb (y) 0 : Nat), .int .u64 (limb (y) 1 : Nat), .int .u64 (limb (y) 2 : Nat), .int .u64 (limb (y) 3 : Nat), .bool i]] w fun e w' => e = .returned (.tuple #[.string B, .int .i64 0]) ∧ Below w.heap.size w w')
    (k3 : ∀ w, Glob w → Calls Tryd.prog 22 #[.string s] w fun e w' => e = .returned (.tuple #[.agg #[.int .u64 (limb (X) 0 : Nat), .int .u64 (limb (X) 1 : Nat), .int .u64 (limb (X) 2 : Nat), .int .u64 (limb (X) 3 : Nat), .int .u64 (limb (Y) 0 : Nat), .int .u64 (limb (Y) 1 : Nat), .int .u64 (limb (Y) 2 : Nat), .int .u64 (limb (Y) 3 : Nat), .bool I], .int .i64 0]) ∧ Below w.heap.size w w')
    (k4 : ∀ w, Calls Tryd.prog 23 #[.string s] w fun e w' => e = .returned (.tuple #[.agg #[.int .u64 (limb (X) 0 : Nat), .int .u64 (limb (X) 1 : Nat), .int .u64 (limb (X) 2 : Nat), .int .u64 (limb (X) 3 : Nat), .int .u64 (limb (Y) 0 : Nat), .int .u64 (limb (Y) 1 : Nat), .int .u64 (limb (Y) 2 : Nat), .int .u64 (limb (Y) 3 : Nat), .bool I], .int .i64 0]) ∧ Below w.heap.size w w')
    (k5 : ∀ w, GlobP w → Calls Tryd.prog 20 #[.agg #[.int .u64 (limb (X) 0 : Nat), .int .u64 (limb (X) 1 : Nat), .int .u64 (limb (X) 2 : Nat), .int .u64 (limb (X) 3 : Nat), .int .u64 (limb (Y) 0 : Nat), .int .u64 (limb (Y) 1 : Nat), .int .u64 (limb (Y) 2 : Nat), .int .u64 (limb (Y) 3 : Nat), .bool I]] w fun e w' => e = .returned (.tuple #[.string s, .int .i64 0]) ∧ Below w.heap.size w w')
    (k6 : ∀ w, Glob w → Calls Tryd.prog 22 #[.string B] w fun e w' => e = .returned (.tuple #[.agg #[.int .u64 (limb (x) 0 : Nat), .int .u64 (limb (x) 1 : Nat), .int .u64 (limb (x) 2 : Nat), .int .u64 (limb (x) 3 : Nat), .int .u64 (limb (y) 0 : Nat), .int .u64 (limb (y) 1 : Nat), .int .u64 (limb (y) 2 : Nat), .int .u64 (limb (y) 3 : Nat), .bool i], .int .i64 0]) ∧ Below w.heap.size w w')
    (w : World) (hG : GlobP w) (hT : GTH w) (hQ : GG w) (hR : Glob w) : Calls Tryd.prog 6 #[.agg #[.int .u64 (limb (x) 0 : Nat), .int .u64 (limb (x) 1 : Nat), .int .u64 (limb (x) 2 : Nat), .int .u64 (limb (x) 3 : Nat), .int .u64 (limb (y) 0 : Nat), .int .u64 (limb (y) 1 : Nat), .int .u64 (limb (y) 2 : Nat), .int .u64 (limb (y) 3 : Nat), .bool i], .string s] w fun e w' => e = .returned (.bool true) ∧ Below w.heap.size w w' := by
  have K1 : Hid (∀ w, GlobP w → Calls Tryd.prog 20 #[.agg #[.int .u64 (limb (x) 0 : Nat), .int .u64 (limb (x) 1 : Nat), .int .u64 (limb (x) 2 : Nat), .int .u64 (limb (x) 3 : Nat), .int .u64 (limb (y) 0 : Nat), .int .u64 (limb (y) 1 : Nat), .int .u64 (limb (y) 2 : Nat), .int .u64 (limb (y) 3 : Nat), .bool i]] w fun e w' => e = .returned (.tuple #[.string B, .int .i64 0]) ∧ Below w.heap.size w w') := k1
  have K2 : Hid (∀ w, Calls Tryd.prog 21 #[.agg #[.int .u64 (limb (x) 0 : Nat), .int .u64 (limb (x) 1 : Nat), .int .u64 (limb (x) 2 : Nat), .int .u64 (limb (x) 3 : Nat), .int .u64 (limb (y) 0 : Nat), .int .u64 (limb (y) 1 : Nat), .int .u64 (limb (y) 2 : Nat), .int .u64 (limb (y) 3 : Nat), .bool i]] w fun e w' => e = .returned (.tuple #[.string B, .int .i64 0]) ∧ Below w.heap.size w w') := k2
  have K3 : Hid (∀ w, Glob w → Calls Tryd.prog 22 #[.string s] w fun e w' => e = .returned (.tuple #[.agg #[.int .u64 (limb (X) 0 : Nat), .int .u64 (limb (X) 1 : Nat), .int .u64 (limb (X) 2 : Nat), .int .u64 (limb (X) 3 : Nat), .int .u64 (limb (Y) 0 : Nat), .int .u64 (limb (Y) 1 : Nat), .int .u64 (limb (Y) 2 : Nat), .int .u64 (limb (Y) 3 : Nat), .bool I], .int .i64 0]) ∧ Below w.heap.size w w') := k3
  have K4 : Hid (∀ w, Calls Tryd.prog 23 #[.string s] w fun e w' => e = .returned (.tuple #[.agg #[.int .u64 (limb (X) 0 : Nat), .int .u64 (limb (X) 1 : Nat), .int .u64 (limb (X) 2 : Nat), .int .u64 (limb (X) 3 : Nat), .int .u64 (limb (Y) 0 : Nat), .int .u64 (limb (Y) 1 : Nat), .int .u64 (limb (Y) 2 : Nat), .int .u64 (limb (Y) 3 : Nat), .bool I], .int .i64 0]) ∧ Below w.heap.size w w') := k4
  have K5 : Hid (∀ w, Glob w → Calls Tryd.prog 22 #[.string B] w fun e w' => e = .returned (.tuple #[.agg #[.int .u64 (limb (x) 0 : Nat), .int .u64 (limb (x) 1 : Nat), .int .u64 (limb (x) 2 : Nat), .int .u64 (limb (x) 3 : Nat), .int .u64 (limb (y) 0 : Nat), .int .u64 (limb (y) 1 : Nat), .int .u64 (limb (y) 2 : Nat), .int .u64 (limb (y) 3 : Nat), .bool i], .int .i64 0]) ∧ Below w.heap.size w w') := k6
  have K6 : Hid (∀ w, GlobP w → Calls Tryd.prog 20 #[.agg #[.int .u64 (limb (X) 0 : Nat), .int .u64 (limb (X) 1 : Nat), .int .u64 (limb (X) 2 : Nat), .int .u64 (limb (X) 3 : Nat), .int .u64 (limb (Y) 0 : Nat), .int .u64 (limb (Y) 1 : Nat), .int .u64 (limb (Y) 2 : Nat), .int .u64 (limb (Y) 3 : Nat), .bool I]] w fun e w' => e = .returned (.tuple #[.string s, .int .i64 0]) ∧ Below w.heap.size w w') := k5
  have K7 : Hid (∀ w, GlobP w → GTH w → GG w → Calls Tryd.prog 15 #[] w fun e w' => e = .returned (.bool true) ∧ Below w.heap.size w w') := fun w h1 h2 h3 => g3_any w h1 h2 h3
  obtain ⟨w0, hw0⟩ : ∃ wq, wq = (w.alloc (.cells #[.int .u64 (limb (x) 0 : Nat), .int .u64 (limb (x) 1 : Nat), .int .u64 (limb (x) 2 : Nat), .int .u64 (limb (x) 3 : Nat), .int .u64 (limb (y) 0 : Nat), .int .u64 (limb (y) 1 : Nat), .int .u64 (limb (y) 2 : Nat), .int .u64 (limb (y) 3 : Nat), .bool i] 26)) := ⟨_, rfl⟩
  have H0 : Hid (OwnC w0 (w.heap.size) (ptL x y i)) ∧ Hid (Below w.heap.size w w0) ∧ Hid (GlobP w0) ∧ Hid (GTH w0) ∧ Hid (GG w0) ∧ Hid (Glob w0) := by
    rw [hw0]
    exact ⟨(OwnC.new' rfl), below_alloc0 (Below.refl _ _) _, (hG).call (below_alloc0 (Below.refl _ _) _), (hT).call (below_alloc0 (Below.refl _ _) _), (hQ).call (below_alloc0 (Below.refl _ _) _), (hR).call (below_alloc0 (Below.refl _ _) _)⟩
  obtain ⟨P0_0, W_0, G_0, T_0, Q_0, R_0⟩ := H0
  clear k1 k2 k3 k4 k5 k6 hG hT hQ hR
  go_enter Tryd.func6, Tryd.ntmps6
  go_upto_region 1 with fail
  rw [← hw0]
  clear hw0
  obtain ⟨fP0z, fP00, fP01, fP02, fP03, fP04, fP05, fP06, fP07, fP08, fP0f⟩ := (P0_0.out).pt
  go_wp2_with fail
  clear fP0z fP00 fP01 fP02 fP03 fP04 fP05 fP06 fP07 fP08 fP0f
  refine (K1.out _ (G_0.out)).mono ?_
  rintro e w1 ⟨rfl, hq⟩
  have P0_1 : Hid (OwnC w1 (w.heap.size) (ptL x y i)) := OwnC.call P0_0.out hq
  have W_1 : Hid (Below w.heap.size w w1) := below_call0 W_0.out hq
  have G_1 : Hid (GlobP w1) := G_0.out.call hq
  have T_1 : Hid (GTH w1) := T_0.out.call hq
  have Q_1 : Hid (GG w1) := Q_0.out.call hq
  have R_1 : Hid (Glob w1) := R_0.out.call hq
  clear hq P0_0 W_0 G_0 T_0 Q_0 R_0
  go_upto_region 2 with fail
  obtain ⟨fP0z, fP00, fP01, fP02, fP03, fP04, fP05, fP06, fP07, fP08, fP0f⟩ := (P0_1.out).pt
  go_wp2_with fail
  clear fP0z fP00 fP01 fP02 fP03 fP04 fP05 fP06 fP07 fP08 fP0f
  refine (K2.out _).mono ?_
  rintro e w2 ⟨rfl, hq⟩
  have P0_2 : Hid (OwnC w2 (w.heap.size) (ptL x y i)) := OwnC.call P0_1.out hq
  have W_2 : Hid (Below w.heap.size w w2) := below_call0 W_1.out hq
  have G_2 : Hid (GlobP w2) := G_1.out.call hq
  have T_2 : Hid (GTH w2) := T_1.out.call hq
  have Q_2 : Hid (GG w2) := Q_1.out.call hq
  have R_2 : Hid (Glob w2) := R_1.out.call hq
  clear hq P0_1 W_1 G_1 T_1 Q_1 R_1
  go_upto_region 3 with fail
  go_upto_region 3 with fail
  go_cut [9, 10] (fun vq9 vq10 wx => ∃ bk9, vq9 = .pointer (some ⟨bk9, 0, none⟩) ∧ vq10 = .int .i64 0 ∧ w2.heap.size ≤ bk9 ∧ OwnC wx bk9 (ptL X Y I) ∧ Below w2.heap.size w2 wx)
  case first =>
    go_wp2_with fail
    refine (K3.out _ (R_2.out)).mono ?_
    rintro e wx0 ⟨rfl, hq0⟩
    go_wp2_with fail
    go_meet
    exact ⟨_, rfl, rfl, hq0.size, OwnC.new' rfl, below_alloc0 hq0 _⟩
  case rest =>
    obtain ⟨bk9, rfl, rfl, hle, hO, hB⟩ := hcut
    have P0_3 : Hid (OwnC wc (w.heap.size) (ptL x y i)) := OwnC.call P0_2.out hB
    have W_3 : Hid (Below w.heap.size w wc) := below_call0 W_2.out hB
    have G_3 : Hid (GlobP wc) := G_2.out.call hB
    have T_3 : Hid (GTH wc) := T_2.out.call hB
    have Q_3 : Hid (GG wc) := Q_2.out.call hB
    have R_3 : Hid (Glob wc) := R_2.out.call hB
    have V9_3 : Hid (OwnC wc bk9 (ptL X Y I)) := hO
    clear hB P0_2 W_2 G_2 T_2 Q_2 R_2
    clear hO hle
    generalize wc = w3 at P0_3 W_3 G_3 T_3 Q_3 R_3 V9_3 ⊢
    go_upto_region 4 with fail
    go_cut [11, 12] (fun vq11 vq12 wx => ∃ bk11, vq11 = .pointer (some ⟨bk11, 0, none⟩) ∧ vq12 = .int .i64 0 ∧ w3.heap.size ≤ bk11 ∧ OwnC wx bk11 (ptL X Y I) ∧ Below w3.heap.size w3 wx)
    case first =>
      go_wp2_with fail
      refine (K4.out _).mono ?_
      rintro e wx0 ⟨rfl, hq0⟩
      go_wp2_with fail
      go_meet
      exact ⟨_, rfl, rfl, hq0.size, OwnC.new' rfl, below_alloc0 hq0 _⟩
    case rest =>
      obtain ⟨bk11, rfl, rfl, hle, hO, hB⟩ := hcut
      rename_i ur us ut uu uv uw ux uy uz uA uB uC uD uE uF uG uH uI uJ uK uL uM uN uO uP uQ uR uS uT uU uV uW uX uY uZ va vb vc vd ve vf vg vh vi vj vk vl vm vn vo vp vq vr vs vt vu vv vw vx vy vz vA vB vC vD vE vF Kq3 hKq3
      clear ur us ut uu uv uw ux uy uz uA uB uC uD uE uF uG uH uI uJ uK uL uM uN uO uP uQ uR uS uT uU uV uW uX uY uZ va vb vc vd ve vf vg vh vi vj vk vl vm vn vo vp vq vr vs vt vu vv vw vx vy vz vA vB vC vD vE vF
      have P0_4 : Hid (OwnC wc (w.heap.size) (ptL x y i)) := OwnC.call P0_3.out hB
      have W_4 : Hid (Below w.heap.size w wc) := below_call0 W_3.out hB
      have G_4 : Hid (GlobP wc) := G_3.out.call hB
      have T_4 : Hid (GTH wc) := T_3.out.call hB
      have Q_4 : Hid (GG wc) := Q_3.out.call hB
      have R_4 : Hid (Glob wc) := R_3.out.call hB
      have V9_4 : Hid (OwnC wc bk9 (ptL X Y I)) := OwnC.call V9_3.out hB
      have V11_4 : Hid (OwnC wc bk11 (ptL X Y I)) := hO
      clear hB P0_3 W_3 G_3 T_3 Q_3 R_3 V9_3
      clear hO hle
      generalize wc = w4 at P0_4 W_4 G_4 T_4 Q_4 R_4 V9_4 V11_4 ⊢
      go_upto_region 5 with fail
      obtain ⟨fV11z, fV110, fV111, fV112, fV113, fV114, fV115, fV116, fV117, fV118, fV11f⟩ := (V11_4.out).pt
      obtain ⟨fV9z, fV90, fV91, fV92, fV93, fV94, fV95, fV96, fV97, fV98, fV9f⟩ := (V9_4.out).pt
      go_upto_region 8 with fail
      clear fV11z fV110 fV111 fV112 fV113 fV114 fV115 fV116 fV117 fV118 fV11f fV9z fV90 fV91 fV92 fV93 fV94 fV95 fV96 fV97 fV98 fV9f
      go_upto_region 8 with fail
      go_cut [13, 14] (fun vq13 vq14 wx => ∃ bk13, vq13 = .pointer (some ⟨bk13, 0, none⟩) ∧ vq14 = .int .i64 0 ∧ w4.heap.size ≤ bk13 ∧ OwnC wx bk13 (ptL x y i) ∧ Below w4.heap.size w4 wx)
      case first =>
        go_wp2_with fail
        refine (K5.out _ (R_4.out)).mono ?_
        rintro e wx0 ⟨rfl, hq0⟩
        go_wp2_with fail
        go_meet
        exact ⟨_, rfl, rfl, hq0.size, OwnC.new' rfl, below_alloc0 hq0 _⟩
      case rest =>
        obtain ⟨bk13, rfl, rfl, hle, hO, hB⟩ := hcut
        have P0_5 : Hid (OwnC wc (w.heap.size) (ptL x y i)) := OwnC.call P0_4.out hB
        have W_5 : Hid (Below w.heap.size w wc) := below_call0 W_4.out hB
        have G_5 : Hid (GlobP wc) := G_4.out.call hB
        have T_5 : Hid (GTH wc) := T_4.out.call hB
        have Q_5 : Hid (GG wc) := Q_4.out.call hB
        have R_5 : Hid (Glob wc) := R_4.out.call hB
        have V9_5 : Hid (OwnC wc bk9 (ptL X Y I)) := OwnC.call V9_4.out hB
        have V11_5 : Hid (OwnC wc bk11 (ptL X Y I)) := OwnC.call V11_4.out hB
        have V13_5 : Hid (OwnC wc bk13 (ptL x y i)) := hO
        clear hB P0_4 W_4 G_4 T_4 Q_4 R_4 V9_4 V11_4
        clear hO hle
        generalize wc = w5 at P0_5 W_5 G_5 T_5 Q_5 R_5 V9_5 V11_5 V13_5 ⊢
        go_upto_region 9 with fail
        obtain ⟨fP0z, fP00, fP01, fP02, fP03, fP04, fP05, fP06, fP07, fP08, fP0f⟩ := (P0_5.out).pt
        obtain ⟨fV13z, fV130, fV131, fV132, fV133, fV134, fV135, fV136, fV137, fV138, fV13f⟩ := (V13_5.out).pt
        go_upto_region 12 with fail
        clear fP0z fP00 fP01 fP02 fP03 fP04 fP05 fP06 fP07 fP08 fP0f fV13z fV130 fV131 fV132 fV133 fV134 fV135 fV136 fV137 fV138 fV13f
        obtain ⟨fV9z, fV90, fV91, fV92, fV93, fV94, fV95, fV96, fV97, fV98, fV9f⟩ := (V9_5.out).pt
        go_wp2_with fail
        clear fV9z fV90 fV91 fV92 fV93 fV94 fV95 fV96 fV97 fV98 fV9f
        refine (K6.out _ (G_5.out)).mono ?_
        rintro e w6 ⟨rfl, hq⟩
        have P0_6 : Hid (OwnC w6 (w.heap.size) (ptL x y i)) := OwnC.call P0_5.out hq
        have W_6 : Hid (Below w.heap.size w w6) := below_call0 W_5.out hq
        have G_6 : Hid (GlobP w6) := G_5.out.call hq
        have T_6 : Hid (GTH w6) := T_5.out.call hq
        have Q_6 : Hid (GG w6) := Q_5.out.call hq
        have R_6 : Hid (Glob w6) := R_5.out.call hq
        have V9_6 : Hid (OwnC w6 bk9 (ptL X Y I)) := OwnC.call V9_5.out hq
        have V11_6 : Hid (OwnC w6 bk11 (ptL X Y I)) := OwnC.call V11_5.out hq
        have V13_6 : Hid (OwnC w6 bk13 (ptL x y i)) := OwnC.call V13_5.out hq
        clear hq P0_5 W_5 G_5 T_5 Q_5 R_5 V9_5 V11_5 V13_5
        go_upto_region 15 with fail
        go_wp2_with fail
        refine (K7.out _ (G_6.out) (T_6.out) (Q_6.out)).mono ?_
        rintro e w7 ⟨rfl, hq⟩
        have P0_7 : Hid (OwnC w7 (w.heap.size) (ptL x y i)) := OwnC.call P0_6.out hq
        have W_7 : Hid (Below w.heap.size w w7) := below_call0 W_6.out hq
        have G_7 : Hid (GlobP w7) := G_6.out.call hq
        have T_7 : Hid (GTH w7) := T_6.out.call hq
        have Q_7 : Hid (GG w7) := Q_6.out.call hq
        have R_7 : Hid (Glob w7) := R_6.out.call hq
        have V9_7 : Hid (OwnC w7 bk9 (ptL X Y I)) := OwnC.call V9_6.out hq
        have V11_7 : Hid (OwnC w7 bk11 (ptL X Y I)) := OwnC.call V11_6.out hq
        have V13_7 : Hid (OwnC w7 bk13 (ptL x y i)) := OwnC.call V13_6.out hq
        clear hq P0_6 W_6 G_6 T_6 Q_6 R_6 V9_6 V11_6 V13_6
        go_wp2_with fail
        go_ret
        exact ⟨rfl, W_7.out⟩
theorem bytes_law (x y : Nat) (i : Bool) (s : ByteArray) (hX : x < R256) (hY : y < R256) (w : World) (hG : GlobP w) (hT : GTH w) (hQ : GG w) (hR : Glob w) : Calls Tryd.prog 6 #[.agg #[.int .u64 (limb (x) 0 : Nat), .int .u64 (limb (x) 1 : Nat), .int .u64 (limb (x) 2 : Nat), .int .u64 (limb (x) 3 : Nat), .int .u64 (limb (y) 0 : Nat), .int .u64 (limb (y) 1 : Nat), .int .u64 (limb (y) 2 : Nat), .int .u64 (limb (y) 3 : Nat), .bool (i)], .string s] w fun e w' => e = .returned (.bool true) ∧ Below w.heap.size w w' := by
  obtain ⟨X, Y, I, E, k3, k4, kE⟩ := dec_both s
  cases h1 : ptOk x y i with
  | false =>
    by_cases hE : E = 0
    · obtain ⟨d, e1, e2, e3, e4⟩ := kE hE
      rw [hE] at k3 k4
      refine bytes_nh x y X Y i I ⟨#[]⟩ s (fun w g => encode_badC x y i hX hY h1 w g) (fun w => encode_badR x y i hX hY h1 w) k3 k4 (fun w g => ?_) w hG hT hQ hR
      have k := enc_C d w g
      rw [e4, ← e1, ← e2, ← e3] at k
      exact k
    · exact bytes_nn x y X Y i I ⟨#[]⟩ s E hE (fun w g => encode_badC x y i hX hY h1 w g) (fun w => encode_badR x y i hX hY h1 w) k3 k4 w hG hT hQ hR
  | true =>
    obtain ⟨a, rfl, rfl, rfl⟩ := pts_of h1
    by_cases hE : E = 0
    · obtain ⟨d, e1, e2, e3, e4⟩ := kE hE
      rw [hE] at k3 k4
      refine bytes_oh _ _ X Y _ I (encS a) s (fun w g => enc_C a w g) (fun w => enc_R a w) k3 k4 (fun w g => ?_) (fun w h => decC_enc a w h) w hG hT hQ hR
      have k := enc_C d w g
      rw [e4, ← e1, ← e2, ← e3] at k
      exact k
    · exact bytes_on _ _ X Y _ I (encS a) s E hE (fun w g => enc_C a w g) (fun w => enc_R a w) k3 k4 (fun w h => decC_enc a w h) w hG hT hQ hR
end Go.Proofs.YtgmfecncfekjfaaDoor
