/- The reference's curve: a point twice. -/
import Derived.Test.YtfkpbcionlidaaaDoorRf3B
namespace Go.Proofs.YtfkpbcionlidaaaDoor
open Go Go.RowKit Go.Lib

set_option maxRecDepth 100000 in
set_option maxHeartbeats 4000000 in
theorem twice3_z (x y z : Nat) (hzl : z < PP) (hz : z = 0) (w : World) :
  Calls Tryd.prog 43 #[.agg #[.int .u64 (limb (x) 0 : Nat), .int .u64 (limb (x) 1 : Nat), .int .u64 (limb (x) 2 : Nat), .int .u64 (limb (x) 3 : Nat), .int .u64 (limb (y) 0 : Nat), .int .u64 (limb (y) 1 : Nat), .int .u64 (limb (y) 2 : Nat), .int .u64 (limb (y) 3 : Nat), .int .u64 (limb (z) 0 : Nat), .int .u64 (limb (z) 1 : Nat), .int .u64 (limb (z) 2 : Nat), .int .u64 (limb (z) 3 : Nat)]] w fun e w' => e = .returned (.agg #[.int .u64 0, .int .u64 0, .int .u64 0, .int .u64 0, .int .u64 1, .int .u64 0, .int .u64 0, .int .u64 0, .int .u64 0, .int .u64 0, .int .u64 0, .int .u64 0]) ∧ Below w.heap.size w w' := by
 have K1 : Hid (rfZ z true) := rfZ_of (lt_R hzl) (decide_eq_true hz)
 obtain ⟨w0, hw0⟩ : ∃ wq, wq = ((w.alloc (.cells #[.int .u64 (limb (x) 0 : Nat), .int .u64 (limb (x) 1 : Nat), .int .u64 (limb (x) 2 : Nat), .int .u64 (limb (x) 3 : Nat), .int .u64 (limb (y) 0 : Nat), .int .u64 (limb (y) 1 : Nat), .int .u64 (limb (y) 2 : Nat), .int .u64 (limb (y) 3 : Nat), .int .u64 (limb (z) 0 : Nat), .int .u64 (limb (z) 1 : Nat), .int .u64 (limb (z) 2 : Nat), .int .u64 (limb (z) 3 : Nat)] 53)).alloc (.cells #[.int .u64 0, .int .u64 0, .int .u64 0, .int .u64 0, .int .u64 0, .int .u64 0, .int .u64 0, .int .u64 0, .int .u64 0, .int .u64 0, .int .u64 0, .int .u64 0] 53)) := ⟨_, rfl⟩
 have H0 : Hid (OwnC w0 (w.heap.size) (ovL x y z)) ∧ Hid (OwnC w0 (w.heap.size + 1) z12L) ∧ Hid (Below w.heap.size w w0) := by
  rw [hw0]
  exact ⟨(OwnC.new' rfl).alloc, (OwnC.new' (by simp only [World.size_alloc])), below_alloc0 (below_alloc0 (Below.refl _ _) _) _⟩
 obtain ⟨P0_0, P1_0, W_0⟩ := H0
 clear hzl hz
 go_enter Tryd.func43, Tryd.ntmps43
 go_upto_region 1 with fail
 rw [← hw0]
 clear hw0
 obtain ⟨fP0z, fP00, fP01, fP02, fP03, fP04, fP05, fP06, fP07, fP08, fP09, fP010, fP011, fP0f⟩ := (P0_0.out).ov
 go_wp2_with fail
 clear fP0z fP00 fP01 fP02 fP03 fP04 fP05 fP06 fP07 fP08 fP09 fP010 fP011 fP0f
 refine (K1.out _).mono ?_
 rintro e w1 ⟨rfl, hq⟩
 have P0_1 : Hid (OwnC w1 (w.heap.size) (ovL x y z)) := OwnC.call P0_0.out hq
 have P1_1 : Hid (OwnC w1 (w.heap.size + 1) z12L) := OwnC.call P1_0.out hq
 have W_1 : Hid (Below w.heap.size w w1) := below_call0 W_0.out hq
 clear hq P0_0 P1_0 W_0
 obtain ⟨fP1z, fP10, fP11, fP12, fP13, fP14, fP15, fP16, fP17, fP18, fP19, fP110, fP111, fP1f⟩ := (P1_1.out).z12
 go_wp2_with fail
 clear fP1z fP10 fP11 fP12 fP13 fP14 fP15 fP16 fP17 fP18 fP19 fP110 fP111 fP1f
 obtain ⟨wz, hwz⟩ : ∃ wq, wq = ((((((((((((w1.setCell ⟨(w.heap.size + 1), 0, none⟩ (.int .u64 0)).setCell ⟨(w.heap.size + 1), 1, none⟩ (.int .u64 0)).setCell ⟨(w.heap.size + 1), 2, none⟩ (.int .u64 0)).setCell ⟨(w.heap.size + 1), 3, none⟩ (.int .u64 0)).setCell ⟨(w.heap.size + 1), 4, none⟩ (.int .u64 1)).setCell ⟨(w.heap.size + 1), 5, none⟩ (.int .u64 0)).setCell ⟨(w.heap.size + 1), 6, none⟩ (.int .u64 0)).setCell ⟨(w.heap.size + 1), 7, none⟩ (.int .u64 0)).setCell ⟨(w.heap.size + 1), 8, none⟩ (.int .u64 0)).setCell ⟨(w.heap.size + 1), 9, none⟩ (.int .u64 0)).setCell ⟨(w.heap.size + 1), 10, none⟩ (.int .u64 0)).setCell ⟨(w.heap.size + 1), 11, none⟩ (.int .u64 0)) := ⟨_, rfl⟩
 rw [← hwz]
 have hwy : wz = putL (w.heap.size + 1) 0 (ovL 0 1 0) w1 := by
  rw [hwz]
  simp only [putL, ovL, lit0.1, lit0.2.1, lit0.2.2.1, lit0.2.2.2, lit1.1, lit1.2.1, lit1.2.2.1, lit1.2.2.2]
 have HZ : OwnC wz (w.heap.size + 1) (ovL 0 1 0) ∧ Below w.heap.size w wz := by
  rw [hwy]
  exact ⟨OwnC.put (ovL 0 1 0) P1_1.out rfl, below_putL (Nat.le_succ_of_le (Nat.le_refl _)) (ovL 0 1 0) 0 _ W_1.out⟩
 clear hwz hwy
 obtain ⟨hO, HB⟩ := HZ
 obtain ⟨rz, r0, r1, r2, r3, r4, r5, r6, r7, r8, r9, r10, r11, rf⟩ := hO.ov
 try rw [lit0.1] at r0
 try rw [lit0.2.1] at r1
 try rw [lit0.2.2.1] at r2
 try rw [lit0.2.2.2] at r3
 try rw [lit1.1] at r4
 try rw [lit1.2.1] at r5
 try rw [lit1.2.2.1] at r6
 try rw [lit1.2.2.2] at r7
 try rw [lit0.1] at r8
 try rw [lit0.2.1] at r9
 try rw [lit0.2.2.1] at r10
 try rw [lit0.2.2.2] at r11
 refine bodyPost_ret (v := .agg #[.int .u64 0, .int .u64 0, .int .u64 0, .int .u64 0, .int .u64 1, .int .u64 0, .int .u64 0, .int .u64 0, .int .u64 0, .int .u64 0, .int .u64 0, .int .u64 0]) ?_ rfl ⟨rfl, HB⟩
 simp [results, Tryd.results43, go_sem, r0, r1, r2, r3, r4, r5, r6, r7, r8, r9, r10, r11]
set_option maxRecDepth 100000 in
set_option maxHeartbeats 4000000 in
theorem twice3_fin (x y z x2 ww s b b4 hh hs ys y4 ee s3 zz X Y Z : Nat) (hx : x < PP) (hyl : y < PP) (hzl : z < PP) (hz : z ≠ 0) (hy : y ≠ 0) (q_x2 : x2 = mM x x) (q_ww : ww = aM (aM x2 x2) x2) (q_s : s = mM y z) (q_b : b = mM (mM x y) s) (q_b4 : b4 = aM (aM b b) (aM b b)) (q_hh : hh = sM (mM ww ww) (aM b4 b4)) (q_hs : hs = mM hh s) (q_ys : ys = mM y s) (q_y4 : y4 = mM ys ys) (q_ee : ee = aM (aM y4 y4) (aM y4 y4)) (q_s3 : s3 = mM (mM s s) s) (q_zz : zz = aM (aM s3 s3) (aM s3 s3)) (q_X : X = aM hs hs) (q_Y : Y = sM (mM ww (sM b4 hh)) (aM ee ee)) (q_Z : Z = aM zz zz) (w : World) :
  Calls Tryd.prog 43 #[.agg #[.int .u64 (limb (x) 0 : Nat), .int .u64 (limb (x) 1 : Nat), .int .u64 (limb (x) 2 : Nat), .int .u64 (limb (x) 3 : Nat), .int .u64 (limb (y) 0 : Nat), .int .u64 (limb (y) 1 : Nat), .int .u64 (limb (y) 2 : Nat), .int .u64 (limb (y) 3 : Nat), .int .u64 (limb (z) 0 : Nat), .int .u64 (limb (z) 1 : Nat), .int .u64 (limb (z) 2 : Nat), .int .u64 (limb (z) 3 : Nat)]] w fun e w' => e = .returned (.agg #[.int .u64 (limb (X) 0 : Nat), .int .u64 (limb (X) 1 : Nat), .int .u64 (limb (X) 2 : Nat), .int .u64 (limb (X) 3 : Nat), .int .u64 (limb (Y) 0 : Nat), .int .u64 (limb (Y) 1 : Nat), .int .u64 (limb (Y) 2 : Nat), .int .u64 (limb (Y) 3 : Nat), .int .u64 (limb (Z) 0 : Nat), .int .u64 (limb (Z) 1 : Nat), .int .u64 (limb (Z) 2 : Nat), .int .u64 (limb (Z) 3 : Nat)]) ∧ Below w.heap.size w w' := by
 have K1 : Hid (rfZ z false) := rfZ_of (lt_R hzl) (decide_eq_false hz)
 have K2 : Hid (rfZ y false) := rfZ_of (lt_R hyl) (decide_eq_false hy)
 have K3 : Hid (∀ w, Calls Tryd.prog 40 #[] w fun e w' => e = .returned (.agg #[.int .u64 (limb (PP) 0 : Nat), .int .u64 (limb (PP) 1 : Nat), .int .u64 (limb (PP) 2 : Nat), .int .u64 (limb (PP) 3 : Nat), .int .u64 (limb (R256 - (PP)) 0 : Nat), .int .u64 (limb (R256 - (PP)) 1 : Nat), .int .u64 (limb (R256 - (PP)) 2 : Nat), .int .u64 (limb (R256 - (PP)) 3 : Nat)]) ∧ Below w.heap.size w w') := fun w => base2_any w
 have lx2 : x2 < PP := by rw [q_x2]; exact mM_lt _ _
 have K4 : Hid (rfM x x x2) := rfM_of hx hx q_x2
 obtain ⟨c1, ec1⟩ : ∃ uq, uq = aM x2 x2 := ⟨_, rfl⟩
 have lc1 : c1 < PP := by rw [ec1]; exact aM_lt _ _
 have K5 : Hid (rfA x2 x2 c1) := rfA_of lx2 lx2 ec1
 rw [← ec1] at q_ww
 have lww : ww < PP := by rw [q_ww]; exact aM_lt _ _
 have K6 : Hid (rfA c1 x2 ww) := rfA_of lc1 lx2 q_ww
 have ls : s < PP := by rw [q_s]; exact mM_lt _ _
 have K7 : Hid (rfM y z s) := rfM_of hyl hzl q_s
 obtain ⟨c2, ec2⟩ : ∃ uq, uq = mM x y := ⟨_, rfl⟩
 have lc2 : c2 < PP := by rw [ec2]; exact mM_lt _ _
 have K8 : Hid (rfM x y c2) := rfM_of hx hyl ec2
 rw [← ec2] at q_b
 have lb : b < PP := by rw [q_b]; exact mM_lt _ _
 have K9 : Hid (rfM c2 s b) := rfM_of lc2 ls q_b
 obtain ⟨c3, ec3⟩ : ∃ uq, uq = aM b b := ⟨_, rfl⟩
 have lc3 : c3 < PP := by rw [ec3]; exact aM_lt _ _
 have K10 : Hid (rfA b b c3) := rfA_of lb lb ec3
 rw [← ec3] at q_b4
 have lb4 : b4 < PP := by rw [q_b4]; exact aM_lt _ _
 have K11 : Hid (rfA c3 c3 b4) := rfA_of lc3 lc3 q_b4
 obtain ⟨c4, ec4⟩ : ∃ uq, uq = mM ww ww := ⟨_, rfl⟩
 have lc4 : c4 < PP := by rw [ec4]; exact mM_lt _ _
 have K12 : Hid (rfM ww ww c4) := rfM_of lww lww ec4
 obtain ⟨c5, ec5⟩ : ∃ uq, uq = aM b4 b4 := ⟨_, rfl⟩
 have lc5 : c5 < PP := by rw [ec5]; exact aM_lt _ _
 have K13 : Hid (rfA b4 b4 c5) := rfA_of lb4 lb4 ec5
 rw [← ec4, ← ec5] at q_hh
 have lhh : hh < PP := by rw [q_hh]; exact sM_lt _ _
 have K14 : Hid (rfS c4 c5 hh) := rfS_of lc4 lc5 q_hh
 have lhs : hs < PP := by rw [q_hs]; exact mM_lt _ _
 have K15 : Hid (rfM hh s hs) := rfM_of lhh ls q_hs
 have lys : ys < PP := by rw [q_ys]; exact mM_lt _ _
 have K16 : Hid (rfM y s ys) := rfM_of hyl ls q_ys
 have ly4 : y4 < PP := by rw [q_y4]; exact mM_lt _ _
 have K17 : Hid (rfM ys ys y4) := rfM_of lys lys q_y4
 obtain ⟨c6, ec6⟩ : ∃ uq, uq = aM y4 y4 := ⟨_, rfl⟩
 have lc6 : c6 < PP := by rw [ec6]; exact aM_lt _ _
 have K18 : Hid (rfA y4 y4 c6) := rfA_of ly4 ly4 ec6
 rw [← ec6] at q_ee
 have lee : ee < PP := by rw [q_ee]; exact aM_lt _ _
 have K19 : Hid (rfA c6 c6 ee) := rfA_of lc6 lc6 q_ee
 obtain ⟨c7, ec7⟩ : ∃ uq, uq = mM s s := ⟨_, rfl⟩
 have lc7 : c7 < PP := by rw [ec7]; exact mM_lt _ _
 have K20 : Hid (rfM s s c7) := rfM_of ls ls ec7
 rw [← ec7] at q_s3
 have ls3 : s3 < PP := by rw [q_s3]; exact mM_lt _ _
 have K21 : Hid (rfM c7 s s3) := rfM_of lc7 ls q_s3
 obtain ⟨c8, ec8⟩ : ∃ uq, uq = aM s3 s3 := ⟨_, rfl⟩
 have lc8 : c8 < PP := by rw [ec8]; exact aM_lt _ _
 have K22 : Hid (rfA s3 s3 c8) := rfA_of ls3 ls3 ec8
 rw [← ec8] at q_zz
 have lzz : zz < PP := by rw [q_zz]; exact aM_lt _ _
 have K23 : Hid (rfA c8 c8 zz) := rfA_of lc8 lc8 q_zz
 have lX : X < PP := by rw [q_X]; exact aM_lt _ _
 have K24 : Hid (rfA hs hs X) := rfA_of lhs lhs q_X
 obtain ⟨c9, ec9⟩ : ∃ uq, uq = sM b4 hh := ⟨_, rfl⟩
 have lc9 : c9 < PP := by rw [ec9]; exact sM_lt _ _
 have K25 : Hid (rfS b4 hh c9) := rfS_of lb4 lhh ec9
 obtain ⟨c10, ec10⟩ : ∃ uq, uq = mM ww c9 := ⟨_, rfl⟩
 have lc10 : c10 < PP := by rw [ec10]; exact mM_lt _ _
 have K26 : Hid (rfM ww c9 c10) := rfM_of lww lc9 ec10
 obtain ⟨c11, ec11⟩ : ∃ uq, uq = aM ee ee := ⟨_, rfl⟩
 have lc11 : c11 < PP := by rw [ec11]; exact aM_lt _ _
 have K27 : Hid (rfA ee ee c11) := rfA_of lee lee ec11
 rw [← ec9, ← ec10, ← ec11] at q_Y
 have lY : Y < PP := by rw [q_Y]; exact sM_lt _ _
 have K28 : Hid (rfS c10 c11 Y) := rfS_of lc10 lc11 q_Y
 have lZ : Z < PP := by rw [q_Z]; exact aM_lt _ _
 have K29 : Hid (rfA zz zz Z) := rfA_of lzz lzz q_Z
 obtain ⟨w0, hw0⟩ : ∃ wq, wq = ((w.alloc (.cells #[.int .u64 (limb (x) 0 : Nat), .int .u64 (limb (x) 1 : Nat), .int .u64 (limb (x) 2 : Nat), .int .u64 (limb (x) 3 : Nat), .int .u64 (limb (y) 0 : Nat), .int .u64 (limb (y) 1 : Nat), .int .u64 (limb (y) 2 : Nat), .int .u64 (limb (y) 3 : Nat), .int .u64 (limb (z) 0 : Nat), .int .u64 (limb (z) 1 : Nat), .int .u64 (limb (z) 2 : Nat), .int .u64 (limb (z) 3 : Nat)] 53)).alloc (.cells #[.int .u64 0, .int .u64 0, .int .u64 0, .int .u64 0, .int .u64 0, .int .u64 0, .int .u64 0, .int .u64 0, .int .u64 0, .int .u64 0, .int .u64 0, .int .u64 0] 53)) := ⟨_, rfl⟩
 have H0 : Hid (OwnC w0 (w.heap.size) (ovL x y z)) ∧ Hid (OwnC w0 (w.heap.size + 1) z12L) ∧ Hid (Below w.heap.size w w0) := by
  rw [hw0]
  exact ⟨(OwnC.new' rfl).alloc, (OwnC.new' (by simp only [World.size_alloc])), below_alloc0 (below_alloc0 (Below.refl _ _) _) _⟩
 obtain ⟨P0_0, P1_0, W_0⟩ := H0
 clear q_x2 lx2 ec1 lc1 q_ww lww q_s ls ec2 lc2 q_b lb ec3 lc3 q_b4 lb4 ec4 lc4 ec5 lc5 q_hh lhh q_hs lhs q_ys lys q_y4 ly4 ec6 lc6 q_ee lee ec7 lc7 q_s3 ls3 ec8 lc8 q_zz lzz q_X lX ec9 lc9 ec10 lc10 ec11 lc11 q_Y lY q_Z lZ hx hyl hzl hz hy
 go_enter Tryd.func43, Tryd.ntmps43
 go_upto_region 1 with fail
 rw [← hw0]
 clear hw0
 obtain ⟨fP0z, fP00, fP01, fP02, fP03, fP04, fP05, fP06, fP07, fP08, fP09, fP010, fP011, fP0f⟩ := (P0_0.out).ov
 go_wp2_with fail
 clear fP0z fP00 fP01 fP02 fP03 fP04 fP05 fP06 fP07 fP08 fP09 fP010 fP011 fP0f
 refine (K1.out _).mono ?_
 rintro e w1 ⟨rfl, hq⟩
 have P0_1 : Hid (OwnC w1 (w.heap.size) (ovL x y z)) := OwnC.call P0_0.out hq
 have P1_1 : Hid (OwnC w1 (w.heap.size + 1) z12L) := OwnC.call P1_0.out hq
 have W_1 : Hid (Below w.heap.size w w1) := below_call0 W_0.out hq
 clear hq P0_0 P1_0 W_0
 obtain ⟨fP0z, fP00, fP01, fP02, fP03, fP04, fP05, fP06, fP07, fP08, fP09, fP010, fP011, fP0f⟩ := (P0_1.out).ov
 go_wp2_with fail
 clear fP0z fP00 fP01 fP02 fP03 fP04 fP05 fP06 fP07 fP08 fP09 fP010 fP011 fP0f
 refine (K2.out _).mono ?_
 rintro e w2 ⟨rfl, hq⟩
 have P0_2 : Hid (OwnC w2 (w.heap.size) (ovL x y z)) := OwnC.call P0_1.out hq
 have P1_2 : Hid (OwnC w2 (w.heap.size + 1) z12L) := OwnC.call P1_1.out hq
 have W_2 : Hid (Below w.heap.size w w2) := below_call0 W_1.out hq
 clear hq P0_1 P1_1 W_1
 go_upto_region 3 with fail
 go_upto_region 3 with fail
 go_cut [3] (fun vq3 wx => ∃ bk3, vq3 = .pointer (some ⟨bk3, 0, none⟩) ∧ w2.heap.size ≤ bk3 ∧ OwnC wx bk3 (fvL PP) ∧ Below w2.heap.size w2 wx)
 case first =>
  go_wp2_with fail
  refine (K3.out _).mono ?_
  rintro e wx0 ⟨rfl, hq0⟩
  go_wp2_with fail
  go_meet
  exact ⟨_, rfl, hq0.size, OwnC.new' rfl, below_alloc0 hq0 _⟩
 case rest =>
  obtain ⟨bk3, rfl, hle, hO, hB⟩ := hcut
  have P0_3 : Hid (OwnC wc (w.heap.size) (ovL x y z)) := OwnC.call P0_2.out hB
  have P1_3 : Hid (OwnC wc (w.heap.size + 1) z12L) := OwnC.call P1_2.out hB
  have W_3 : Hid (Below w.heap.size w wc) := below_call0 W_2.out hB
  have V3_3 : Hid (OwnC wc bk3 (fvL PP)) := hO
  clear hB P0_2 P1_2 W_2
  clear hO hle
  generalize wc = w3 at P0_3 P1_3 W_3 V3_3 ⊢
  go_upto_region 4 with fail
  go_cut [4] (fun vq4 wx => ∃ bk4, vq4 = .pointer (some ⟨bk4, 0, none⟩) ∧ w3.heap.size ≤ bk4 ∧ OwnC wx bk4 (numL x2) ∧ Below w3.heap.size w3 wx)
  case first =>
   obtain ⟨fP0z, fP00, fP01, fP02, fP03, fP04, fP05, fP06, fP07, fP08, fP09, fP010, fP011, fP0f⟩ := (P0_3.out).ov
   obtain ⟨fV3z, fV30, fV31, fV32, fV33, fV34, fV35, fV36, fV37, fV3f⟩ := (V3_3.out).fv
   go_wp2_with fail
   clear fP0z fP00 fP01 fP02 fP03 fP04 fP05 fP06 fP07 fP08 fP09 fP010 fP011 fP0f fV3z fV30 fV31 fV32 fV33 fV34 fV35 fV36 fV37 fV3f
   refine (K4.out _).mono ?_
   rintro e wx0 ⟨rfl, hq0⟩
   go_wp2_with fail
   go_meet
   exact ⟨_, rfl, hq0.size, OwnC.new' rfl, below_alloc0 hq0 _⟩
  case rest =>
   obtain ⟨bk4, rfl, hle, hO, hB⟩ := hcut
   rename_i uq ur us ut uu uv uw ux uy uz uA uB uC uD uE uF uG uH uI uJ uK uL uM uN uO uP uQ uR uS uT uU uV uW uX uY uZ va vb vc vd ve vf vg vh vi vj vk vl vm vn vo vp vq vr vs vt vu vv vw vx vy vz vA vB vC vD vE vF vG vH vI vJ vK vL vM vN vO vP vQ vR vS vT vU vV vW vX vY vZ za zb zc zd ze zf zg zh zi zj zk zl zm zn zo zp zq zr zs zt zu zv zw zx zy zz zA zB zC zD zE zF zG Kq3 hKq3
   clear uq ur us ut uu uv uw ux uy uz uA uB uC uD uE uF uG uH uI uJ uK uL uM uN uO uP uQ uR uS uT uU uV uW uX uY uZ va vb vc vd ve vf vg vh vi vj vk vl vm vn vo vp vq vr vs vt vu vv vw vx vy vz vA vB vC vD vE vF vG vH vI vJ vK vL vM vN vO vP vQ vR vS vT vU vV vW vX vY vZ za zb zc zd ze zf zg zh zi zj zk zl zm zn zo zp zq zr zs zt zu zv zw zx zy zz zA zB zC zD zE zF zG
   have P0_4 : Hid (OwnC wc (w.heap.size) (ovL x y z)) := OwnC.call P0_3.out hB
   have P1_4 : Hid (OwnC wc (w.heap.size + 1) z12L) := OwnC.call P1_3.out hB
   have W_4 : Hid (Below w.heap.size w wc) := below_call0 W_3.out hB
   have V3_4 : Hid (OwnC wc bk3 (fvL PP)) := OwnC.call V3_3.out hB
   have V4_4 : Hid (OwnC wc bk4 (numL x2)) := hO
   clear hB P0_3 P1_3 W_3 V3_3
   clear hO hle
   generalize wc = w4 at P0_4 P1_4 W_4 V3_4 V4_4 ⊢
   go_upto_region 5 with fail
   go_cut [5] (fun vq5 wx => ∃ bk5, vq5 = .pointer (some ⟨bk5, 0, none⟩) ∧ w4.heap.size ≤ bk5 ∧ OwnC wx bk5 (numL ww) ∧ Below w4.heap.size w4 wx)
   case first =>
    refine wp_region_I 8 0 7 [?v0r5, ?v1r5, ?v2r5, ?v3r5, ?v4r5, ?v5r5, ?v6r5, undef] [some 33, some 34, some 35, some 36, some 37, some 38, some 39, some 5] (fun w b => OwnC w b z4L) ?Ar5 ?oar5 (by kernel_rfl) (by kernel_rfl) (by kernel_rfl) rfl ?hAr5 (fun _ _ _ h hb => h.call hb) ?hopr5 ?hoar5 (by decide) ?halr5 ?hfinr5
    case hAr5 =>
     intro bq
     simp only [List.set_cons_zero, List.set_cons_succ, List.zip_cons_cons, List.zip_nil_right, fillD, Act.put, List.setIfInBounds_toArray]
     exact rfl
    case hopr5 =>
     refine ⟨?_, ?_, ?_, ?_, ?_, ?_, ?_, fun h => absurd rfl h, trivial⟩
     iterate 2 focus (intro _ bq wx hS; refine OpTo.yields rfl ?_; obtain ⟨_, _, _, _, _, _, _, _, _, _⟩ := (OwnC.call V3_4.out hS).fv; clear hS; go_simp; try with_reducible rfl)
     iterate 2 focus (intro _ bq wx hS; refine OpTo.yields rfl ?_; obtain ⟨_, _, _, _, _, _⟩ := (OwnC.call V4_4.out hS).num; clear hS; go_simp; try with_reducible rfl)
     focus (intro _ bq wx hS; refine OpTo.calls rfl ?_ ?_; rotate_left; intro K hK; go_simp; refine (K5.out _).mono ?_; rintro e w' ⟨rfl, hq⟩; exact hK w' hq; exact rfl)
     focus (intro _ bq wx hS; refine OpTo.yields rfl ?_; obtain ⟨_, _, _, _, _, _⟩ := (OwnC.call V4_4.out hS).num; clear hS; go_simp; try with_reducible rfl)
     focus (intro _ bq wx hS; refine OpTo.calls rfl ?_ ?_; rotate_left; intro K hK; go_simp; refine (K6.out _).mono ?_; rintro e w' ⟨rfl, hq⟩; exact hK w' hq; exact rfl)
    case hoar5 =>
     rw [List.getElem?_toArray]
     exact rfl
    case halr5 =>
     intro bq wx hS
     refine OpTo.make (ob := ?obr5) (B := fun w b => OwnC w b z4L) hS rfl ?runr5 ?ownr5
     case runr5 =>
      go_simp
      try with_reducible rfl
     case ownr5 => exact OwnC.new' rfl
    case hfinr5 =>
     intro bq wx hS hB hle
     refine tail_at (o := ?ofr5_8) ?hir5_8 ?hwr5_8 ?_
     case hir5_8 => rw [List.getElem?_toArray]; exact rfl
     case hwr5_8 => exact rfl
     obtain ⟨gz, g0, g1, g2, g3, gf⟩ := hB.z4
     go_simp
     clear gz g0 g1 g2 g3 gf
     refine tail_end ?_
     go_wp2_with fail
     go_meet
     exact ⟨bq, rfl, hle, OwnC.put (numL ww) hB rfl, below_putL hle (numL ww) 0 _ hS⟩
   case rest =>
    obtain ⟨bk5, rfl, hle, hO, hB⟩ := hcut
    rename_i uq ur us ut uu uv uw ux uy uz uA uB uC uD uE uF uG uH uI uJ uK uL uM uN uO uP uQ uR uS uT uU uV uW uX uY uZ va vb vc vd ve vf vg vh vi vj vk vl vm vn vo vp vq vr vs vt vu vv vw vx vy vz vA vB vC vD vE vF vG vH vI vJ vK vL vM vN vO vP vQ vR vS vT vU vV vW vX vY vZ za zb zc zd ze zf zg zh zi zj zk zl zm zn zo zp zq zr zs zt zu zv zw zx zy zz zA zB zC zD zE zF zG Kq4 hKq4
    clear uq ur us ut uu uv uw ux uy uz uA uB uC uD uE uF uG uH uI uJ uK uL uM uN uO uP uQ uR uS uT uU uV uW uX uY uZ va vb vc vd ve vf vg vh vi vj vk vl vm vn vo vp vq vr vs vt vu vv vw vx vy vz vA vB vC vD vE vF vG vH vI vJ vK vL vM vN vO vP vQ vR vS vT vU vV vW vX vY vZ za zb zc zd ze zf zg zh zi zj zk zl zm zn zo zp zq zr zs zt zu zv zw zx zy zz zA zB zC zD zE zF zG
    have P0_5 : Hid (OwnC wc (w.heap.size) (ovL x y z)) := OwnC.call P0_4.out hB
    have P1_5 : Hid (OwnC wc (w.heap.size + 1) z12L) := OwnC.call P1_4.out hB
    have W_5 : Hid (Below w.heap.size w wc) := below_call0 W_4.out hB
    have V3_5 : Hid (OwnC wc bk3 (fvL PP)) := OwnC.call V3_4.out hB
    have V5_5 : Hid (OwnC wc bk5 (numL ww)) := hO
    clear hB P0_4 P1_4 W_4 V3_4 V4_4
    clear hO hle
    generalize wc = w5 at P0_5 P1_5 W_5 V3_5 V5_5 ⊢
    go_upto_region 6 with fail
    go_cut [6] (fun vq6 wx => ∃ bk6, vq6 = .pointer (some ⟨bk6, 0, none⟩) ∧ w5.heap.size ≤ bk6 ∧ OwnC wx bk6 (numL s) ∧ Below w5.heap.size w5 wx)
    case first =>
     obtain ⟨fP0z, fP00, fP01, fP02, fP03, fP04, fP05, fP06, fP07, fP08, fP09, fP010, fP011, fP0f⟩ := (P0_5.out).ov
     obtain ⟨fV3z, fV30, fV31, fV32, fV33, fV34, fV35, fV36, fV37, fV3f⟩ := (V3_5.out).fv
     go_wp2_with fail
     clear fP0z fP00 fP01 fP02 fP03 fP04 fP05 fP06 fP07 fP08 fP09 fP010 fP011 fP0f fV3z fV30 fV31 fV32 fV33 fV34 fV35 fV36 fV37 fV3f
     refine (K7.out _).mono ?_
     rintro e wx0 ⟨rfl, hq0⟩
     go_wp2_with fail
     go_meet
     exact ⟨_, rfl, hq0.size, OwnC.new' rfl, below_alloc0 hq0 _⟩
    case rest =>
     obtain ⟨bk6, rfl, hle, hO, hB⟩ := hcut
     rename_i uq ur us ut uu uv uw ux uy uz uA uB uC uD uE uF uG uH uI uJ uK uL uM uN uO uP uQ uR uS uT uU uV uW uX uY uZ va vb vc vd ve vf vg vh vi vj vk vl vm vn vo vp vq vr vs vt vu vv vw vx vy vz vA vB vC vD vE vF vG vH vI vJ vK vL vM vN vO vP vQ vR vS vT vU vV vW vX vY vZ za zb zc zd ze zf zg zh zi zj zk zl zm zn zo zp zq zr zs zt zu zv zw zx zy zz zA zB zC zD zE zF zG Kq5 hKq5
     clear uq ur us ut uu uv uw ux uy uz uA uB uC uD uE uF uG uH uI uJ uK uL uM uN uO uP uQ uR uS uT uU uV uW uX uY uZ va vb vc vd ve vf vg vh vi vj vk vl vm vn vo vp vq vr vs vt vu vv vw vx vy vz vA vB vC vD vE vF vG vH vI vJ vK vL vM vN vO vP vQ vR vS vT vU vV vW vX vY vZ za zb zc zd ze zf zg zh zi zj zk zl zm zn zo zp zq zr zs zt zu zv zw zx zy zz zA zB zC zD zE zF zG
     have P0_6 : Hid (OwnC wc (w.heap.size) (ovL x y z)) := OwnC.call P0_5.out hB
     have P1_6 : Hid (OwnC wc (w.heap.size + 1) z12L) := OwnC.call P1_5.out hB
     have W_6 : Hid (Below w.heap.size w wc) := below_call0 W_5.out hB
     have V3_6 : Hid (OwnC wc bk3 (fvL PP)) := OwnC.call V3_5.out hB
     have V5_6 : Hid (OwnC wc bk5 (numL ww)) := OwnC.call V5_5.out hB
     have V6_6 : Hid (OwnC wc bk6 (numL s)) := hO
     clear hB P0_5 P1_5 W_5 V3_5 V5_5
     clear hO hle
     generalize wc = w6 at P0_6 P1_6 W_6 V3_6 V5_6 V6_6 ⊢
     go_upto_region 7 with fail
     go_cut [7] (fun vq7 wx => ∃ bk7, vq7 = .pointer (some ⟨bk7, 0, none⟩) ∧ w6.heap.size ≤ bk7 ∧ OwnC wx bk7 (numL b) ∧ Below w6.heap.size w6 wx)
     case first =>
      refine wp_region_I 10 0 9 [?v0r7, ?v1r7, ?v2r7, ?v3r7, ?v4r7, ?v5r7, ?v6r7, ?v7r7, ?v8r7, undef] [some 46, some 47, some 48, some 49, some 50, some 51, some 52, some 53, some 54, some 7] (fun w b => OwnC w b z4L) ?Ar7 ?oar7 (by kernel_rfl) (by kernel_rfl) (by kernel_rfl) rfl ?hAr7 (fun _ _ _ h hb => h.call hb) ?hopr7 ?hoar7 (by decide) ?halr7 ?hfinr7
      case hAr7 =>
       intro bq
       simp only [List.set_cons_zero, List.set_cons_succ, List.zip_cons_cons, List.zip_nil_right, fillD, Act.put, List.setIfInBounds_toArray]
       exact rfl
      case hopr7 =>
       refine ⟨?_, ?_, ?_, ?_, ?_, ?_, ?_, ?_, ?_, fun h => absurd rfl h, trivial⟩
       iterate 2 focus (intro _ bq wx hS; refine OpTo.yields rfl ?_; obtain ⟨_, _, _, _, _, _, _, _, _, _⟩ := (OwnC.call V3_6.out hS).fv; clear hS; go_simp; try with_reducible rfl)
       focus (intro _ bq wx hS; refine OpTo.yields rfl ?_; clear hS; go_simp; try with_reducible rfl)
       focus (intro _ bq wx hS; refine OpTo.yields rfl ?_; obtain ⟨_, _, _, _, _, _, _, _, _, _, _, _, _, _⟩ := (OwnC.call P0_6.out hS).ov; clear hS; go_simp; try with_reducible rfl)
       focus (intro _ bq wx hS; refine OpTo.yields rfl ?_; clear hS; go_simp; try with_reducible rfl)
       focus (intro _ bq wx hS; refine OpTo.yields rfl ?_; obtain ⟨_, _, _, _, _, _, _, _, _, _, _, _, _, _⟩ := (OwnC.call P0_6.out hS).ov; clear hS; go_simp; try with_reducible rfl)
       focus (intro _ bq wx hS; refine OpTo.calls rfl ?_ ?_; rotate_left; intro K hK; go_simp; refine (K8.out _).mono ?_; rintro e w' ⟨rfl, hq⟩; exact hK w' hq; exact rfl)
       focus (intro _ bq wx hS; refine OpTo.yields rfl ?_; obtain ⟨_, _, _, _, _, _⟩ := (OwnC.call V6_6.out hS).num; clear hS; go_simp; try with_reducible rfl)
       focus (intro _ bq wx hS; refine OpTo.calls rfl ?_ ?_; rotate_left; intro K hK; go_simp; refine (K9.out _).mono ?_; rintro e w' ⟨rfl, hq⟩; exact hK w' hq; exact rfl)
      case hoar7 =>
       rw [List.getElem?_toArray]
       exact rfl
      case halr7 =>
       intro bq wx hS
       refine OpTo.make (ob := ?obr7) (B := fun w b => OwnC w b z4L) hS rfl ?runr7 ?ownr7
       case runr7 =>
        go_simp
        try with_reducible rfl
       case ownr7 => exact OwnC.new' rfl
      case hfinr7 =>
       intro bq wx hS hB hle
       refine tail_at (o := ?ofr7_10) ?hir7_10 ?hwr7_10 ?_
       case hir7_10 => rw [List.getElem?_toArray]; exact rfl
       case hwr7_10 => exact rfl
       obtain ⟨gz, g0, g1, g2, g3, gf⟩ := hB.z4
       go_simp
       clear gz g0 g1 g2 g3 gf
       refine tail_end ?_
       go_wp2_with fail
       go_meet
       exact ⟨bq, rfl, hle, OwnC.put (numL b) hB rfl, below_putL hle (numL b) 0 _ hS⟩
     case rest =>
      obtain ⟨bk7, rfl, hle, hO, hB⟩ := hcut
      rename_i uq ur us ut uu uv uw ux uy uz uA uB uC uD uE uF uG uH uI uJ uK uL uM uN uO uP uQ uR uS uT uU uV uW uX uY uZ va vb vc vd ve vf vg vh vi vj vk vl vm vn vo vp vq vr vs vt vu vv vw vx vy vz vA vB vC vD vE vF vG vH vI vJ vK vL vM vN vO vP vQ vR vS vT vU vV vW vX vY vZ za zb zc zd ze zf zg zh zi zj zk zl zm zn zo zp zq zr zs zt zu zv zw zx zy zz zA zB zC zD zE zF zG Kq6 hKq6
      clear uq ur us ut uu uv uw ux uy uz uA uB uC uD uE uF uG uH uI uJ uK uL uM uN uO uP uQ uR uS uT uU uV uW uX uY uZ va vb vc vd ve vf vg vh vi vj vk vl vm vn vo vp vq vr vs vt vu vv vw vx vy vz vA vB vC vD vE vF vG vH vI vJ vK vL vM vN vO vP vQ vR vS vT vU vV vW vX vY vZ za zb zc zd ze zf zg zh zi zj zk zl zm zn zo zp zq zr zs zt zu zv zw zx zy zz zA zB zC zD zE zF zG
      have P0_7 : Hid (OwnC wc (w.heap.size) (ovL x y z)) := OwnC.call P0_6.out hB
      have P1_7 : Hid (OwnC wc (w.heap.size + 1) z12L) := OwnC.call P1_6.out hB
      have W_7 : Hid (Below w.heap.size w wc) := below_call0 W_6.out hB
      have V3_7 : Hid (OwnC wc bk3 (fvL PP)) := OwnC.call V3_6.out hB
      have V5_7 : Hid (OwnC wc bk5 (numL ww)) := OwnC.call V5_6.out hB
      have V6_7 : Hid (OwnC wc bk6 (numL s)) := OwnC.call V6_6.out hB
      have V7_7 : Hid (OwnC wc bk7 (numL b)) := hO
      clear hB P0_6 P1_6 W_6 V3_6 V5_6 V6_6
      clear hO hle
      generalize wc = w7 at P0_7 P1_7 W_7 V3_7 V5_7 V6_7 V7_7 ⊢
      go_upto_region 8 with fail
      go_cut [8] (fun vq8 wx => ∃ bk8, vq8 = .pointer (some ⟨bk8, 0, none⟩) ∧ w7.heap.size ≤ bk8 ∧ OwnC wx bk8 (numL b4) ∧ Below w7.heap.size w7 wx)
      case first =>
       refine wp_region_I 11 0 10 [?v0r8, ?v1r8, ?v2r8, ?v3r8, ?v4r8, ?v5r8, ?v6r8, ?v7r8, ?v8r8, ?v9r8, undef] [some 55, some 56, some 57, some 58, some 59, some 60, some 61, some 62, some 63, some 64, some 8] (fun w b => OwnC w b z4L) ?Ar8 ?oar8 (by kernel_rfl) (by kernel_rfl) (by kernel_rfl) rfl ?hAr8 (fun _ _ _ h hb => h.call hb) ?hopr8 ?hoar8 (by decide) ?halr8 ?hfinr8
       case hAr8 =>
        intro bq
        simp only [List.set_cons_zero, List.set_cons_succ, List.zip_cons_cons, List.zip_nil_right, fillD, Act.put, List.setIfInBounds_toArray]
        exact rfl
       case hopr8 =>
        refine ⟨?_, ?_, ?_, ?_, ?_, ?_, ?_, ?_, ?_, ?_, fun h => absurd rfl h, trivial⟩
        iterate 2 focus (intro _ bq wx hS; refine OpTo.yields rfl ?_; obtain ⟨_, _, _, _, _, _, _, _, _, _⟩ := (OwnC.call V3_7.out hS).fv; clear hS; go_simp; try with_reducible rfl)
        iterate 2 focus (intro _ bq wx hS; refine OpTo.yields rfl ?_; obtain ⟨_, _, _, _, _, _⟩ := (OwnC.call V7_7.out hS).num; clear hS; go_simp; try with_reducible rfl)
        focus (intro _ bq wx hS; refine OpTo.calls rfl ?_ ?_; rotate_left; intro K hK; go_simp; refine (K10.out _).mono ?_; rintro e w' ⟨rfl, hq⟩; exact hK w' hq; exact rfl)
        focus (intro _ bq wx hS; refine OpTo.yields rfl ?_; obtain ⟨_, _, _, _, _, _, _, _, _, _⟩ := (OwnC.call V3_7.out hS).fv; clear hS; go_simp; try with_reducible rfl)
        iterate 2 focus (intro _ bq wx hS; refine OpTo.yields rfl ?_; obtain ⟨_, _, _, _, _, _⟩ := (OwnC.call V7_7.out hS).num; clear hS; go_simp; try with_reducible rfl)
        focus (intro _ bq wx hS; refine OpTo.calls rfl ?_ ?_; rotate_left; intro K hK; go_simp; refine (K10.out _).mono ?_; rintro e w' ⟨rfl, hq⟩; exact hK w' hq; exact rfl)
        focus (intro _ bq wx hS; refine OpTo.calls rfl ?_ ?_; rotate_left; intro K hK; go_simp; refine (K11.out _).mono ?_; rintro e w' ⟨rfl, hq⟩; exact hK w' hq; exact rfl)
       case hoar8 =>
        rw [List.getElem?_toArray]
        exact rfl
       case halr8 =>
        intro bq wx hS
        refine OpTo.make (ob := ?obr8) (B := fun w b => OwnC w b z4L) hS rfl ?runr8 ?ownr8
        case runr8 =>
         go_simp
         try with_reducible rfl
        case ownr8 => exact OwnC.new' rfl
       case hfinr8 =>
        intro bq wx hS hB hle
        refine tail_at (o := ?ofr8_11) ?hir8_11 ?hwr8_11 ?_
        case hir8_11 => rw [List.getElem?_toArray]; exact rfl
        case hwr8_11 => exact rfl
        obtain ⟨gz, g0, g1, g2, g3, gf⟩ := hB.z4
        go_simp
        clear gz g0 g1 g2 g3 gf
        refine tail_end ?_
        go_wp2_with fail
        go_meet
        exact ⟨bq, rfl, hle, OwnC.put (numL b4) hB rfl, below_putL hle (numL b4) 0 _ hS⟩
      case rest =>
       obtain ⟨bk8, rfl, hle, hO, hB⟩ := hcut
       rename_i uq ur us ut uu uv uw ux uy uz uA uB uC uD uE uF uG uH uI uJ uK uL uM uN uO uP uQ uR uS uT uU uV uW uX uY uZ va vb vc vd ve vf vg vh vi vj vk vl vm vn vo vp vq vr vs vt vu vv vw vx vy vz vA vB vC vD vE vF vG vH vI vJ vK vL vM vN vO vP vQ vR vS vT vU vV vW vX vY vZ za zb zc zd ze zf zg zh zi zj zk zl zm zn zo zp zq zr zs zt zu zv zw zx zy zz zA zB zC zD zE zF zG Kq7 hKq7
       clear uq ur us ut uu uv uw ux uy uz uA uB uC uD uE uF uG uH uI uJ uK uL uM uN uO uP uQ uR uS uT uU uV uW uX uY uZ va vb vc vd ve vf vg vh vi vj vk vl vm vn vo vp vq vr vs vt vu vv vw vx vy vz vA vB vC vD vE vF vG vH vI vJ vK vL vM vN vO vP vQ vR vS vT vU vV vW vX vY vZ za zb zc zd ze zf zg zh zi zj zk zl zm zn zo zp zq zr zs zt zu zv zw zx zy zz zA zB zC zD zE zF zG
       have P0_8 : Hid (OwnC wc (w.heap.size) (ovL x y z)) := OwnC.call P0_7.out hB
       have P1_8 : Hid (OwnC wc (w.heap.size + 1) z12L) := OwnC.call P1_7.out hB
       have W_8 : Hid (Below w.heap.size w wc) := below_call0 W_7.out hB
       have V3_8 : Hid (OwnC wc bk3 (fvL PP)) := OwnC.call V3_7.out hB
       have V5_8 : Hid (OwnC wc bk5 (numL ww)) := OwnC.call V5_7.out hB
       have V6_8 : Hid (OwnC wc bk6 (numL s)) := OwnC.call V6_7.out hB
       have V8_8 : Hid (OwnC wc bk8 (numL b4)) := hO
       clear hB P0_7 P1_7 W_7 V3_7 V5_7 V6_7 V7_7
       clear hO hle
       generalize wc = w8 at P0_8 P1_8 W_8 V3_8 V5_8 V6_8 V8_8 ⊢
       go_upto_region 9 with fail
       go_cut [9] (fun vq9 wx => ∃ bk9, vq9 = .pointer (some ⟨bk9, 0, none⟩) ∧ w8.heap.size ≤ bk9 ∧ OwnC wx bk9 (numL hh) ∧ Below w8.heap.size w8 wx)
       case first =>
        refine wp_region_I 11 0 10 [?v0r9, ?v1r9, ?v2r9, ?v3r9, ?v4r9, ?v5r9, ?v6r9, ?v7r9, ?v8r9, ?v9r9, undef] [some 65, some 66, some 67, some 68, some 69, some 70, some 71, some 72, some 73, some 74, some 9] (fun w b => OwnC w b z4L) ?Ar9 ?oar9 (by kernel_rfl) (by kernel_rfl) (by kernel_rfl) rfl ?hAr9 (fun _ _ _ h hb => h.call hb) ?hopr9 ?hoar9 (by decide) ?halr9 ?hfinr9
        case hAr9 =>
         intro bq
         simp only [List.set_cons_zero, List.set_cons_succ, List.zip_cons_cons, List.zip_nil_right, fillD, Act.put, List.setIfInBounds_toArray]
         exact rfl
        case hopr9 =>
         refine ⟨?_, ?_, ?_, ?_, ?_, ?_, ?_, ?_, ?_, ?_, fun h => absurd rfl h, trivial⟩
         iterate 2 focus (intro _ bq wx hS; refine OpTo.yields rfl ?_; obtain ⟨_, _, _, _, _, _, _, _, _, _⟩ := (OwnC.call V3_8.out hS).fv; clear hS; go_simp; try with_reducible rfl)
         iterate 2 focus (intro _ bq wx hS; refine OpTo.yields rfl ?_; obtain ⟨_, _, _, _, _, _⟩ := (OwnC.call V5_8.out hS).num; clear hS; go_simp; try with_reducible rfl)
         focus (intro _ bq wx hS; refine OpTo.calls rfl ?_ ?_; rotate_left; intro K hK; go_simp; refine (K12.out _).mono ?_; rintro e w' ⟨rfl, hq⟩; exact hK w' hq; exact rfl)
         focus (intro _ bq wx hS; refine OpTo.yields rfl ?_; obtain ⟨_, _, _, _, _, _, _, _, _, _⟩ := (OwnC.call V3_8.out hS).fv; clear hS; go_simp; try with_reducible rfl)
         iterate 2 focus (intro _ bq wx hS; refine OpTo.yields rfl ?_; obtain ⟨_, _, _, _, _, _⟩ := (OwnC.call V8_8.out hS).num; clear hS; go_simp; try with_reducible rfl)
         focus (intro _ bq wx hS; refine OpTo.calls rfl ?_ ?_; rotate_left; intro K hK; go_simp; refine (K13.out _).mono ?_; rintro e w' ⟨rfl, hq⟩; exact hK w' hq; exact rfl)
         focus (intro _ bq wx hS; refine OpTo.calls rfl ?_ ?_; rotate_left; intro K hK; go_simp; refine (K14.out _).mono ?_; rintro e w' ⟨rfl, hq⟩; exact hK w' hq; exact rfl)
        case hoar9 =>
         rw [List.getElem?_toArray]
         exact rfl
        case halr9 =>
         intro bq wx hS
         refine OpTo.make (ob := ?obr9) (B := fun w b => OwnC w b z4L) hS rfl ?runr9 ?ownr9
         case runr9 =>
          go_simp
          try with_reducible rfl
         case ownr9 => exact OwnC.new' rfl
        case hfinr9 =>
         intro bq wx hS hB hle
         refine tail_at (o := ?ofr9_11) ?hir9_11 ?hwr9_11 ?_
         case hir9_11 => rw [List.getElem?_toArray]; exact rfl
         case hwr9_11 => exact rfl
         obtain ⟨gz, g0, g1, g2, g3, gf⟩ := hB.z4
         go_simp
         clear gz g0 g1 g2 g3 gf
         refine tail_end ?_
         go_wp2_with fail
         go_meet
         exact ⟨bq, rfl, hle, OwnC.put (numL hh) hB rfl, below_putL hle (numL hh) 0 _ hS⟩
       case rest =>
        obtain ⟨bk9, rfl, hle, hO, hB⟩ := hcut
        rename_i uq ur us ut uu uv uw ux uy uz uA uB uC uD uE uF uG uH uI uJ uK uL uM uN uO uP uQ uR uS uT uU uV uW uX uY uZ va vb vc vd ve vf vg vh vi vj vk vl vm vn vo vp vq vr vs vt vu vv vw vx vy vz vA vB vC vD vE vF vG vH vI vJ vK vL vM vN vO vP vQ vR vS vT vU vV vW vX vY vZ za zb zc zd ze zf zg zh zi zj zk zl zm zn zo zp zq zr zs zt zu zv zw zx zy zz zA zB zC zD zE zF zG Kq8 hKq8
        clear uq ur us ut uu uv uw ux uy uz uA uB uC uD uE uF uG uH uI uJ uK uL uM uN uO uP uQ uR uS uT uU uV uW uX uY uZ va vb vc vd ve vf vg vh vi vj vk vl vm vn vo vp vq vr vs vt vu vv vw vx vy vz vA vB vC vD vE vF vG vH vI vJ vK vL vM vN vO vP vQ vR vS vT vU vV vW vX vY vZ za zb zc zd ze zf zg zh zi zj zk zl zm zn zo zp zq zr zs zt zu zv zw zx zy zz zA zB zC zD zE zF zG
        have P0_9 : Hid (OwnC wc (w.heap.size) (ovL x y z)) := OwnC.call P0_8.out hB
        have P1_9 : Hid (OwnC wc (w.heap.size + 1) z12L) := OwnC.call P1_8.out hB
        have W_9 : Hid (Below w.heap.size w wc) := below_call0 W_8.out hB
        have V3_9 : Hid (OwnC wc bk3 (fvL PP)) := OwnC.call V3_8.out hB
        have V5_9 : Hid (OwnC wc bk5 (numL ww)) := OwnC.call V5_8.out hB
        have V6_9 : Hid (OwnC wc bk6 (numL s)) := OwnC.call V6_8.out hB
        have V8_9 : Hid (OwnC wc bk8 (numL b4)) := OwnC.call V8_8.out hB
        have V9_9 : Hid (OwnC wc bk9 (numL hh)) := hO
        clear hB P0_8 P1_8 W_8 V3_8 V5_8 V6_8 V8_8
        clear hO hle
        generalize wc = w9 at P0_9 P1_9 W_9 V3_9 V5_9 V6_9 V8_9 V9_9 ⊢
        go_upto_region 10 with fail
        go_cut [10] (fun vq10 wx => ∃ bk10, vq10 = .pointer (some ⟨bk10, 0, none⟩) ∧ w9.heap.size ≤ bk10 ∧ OwnC wx bk10 (numL hs) ∧ Below w9.heap.size w9 wx)
        case first =>
         obtain ⟨fV3z, fV30, fV31, fV32, fV33, fV34, fV35, fV36, fV37, fV3f⟩ := (V3_9.out).fv
         obtain ⟨fV6z, fV60, fV61, fV62, fV63, fV6f⟩ := (V6_9.out).num
         obtain ⟨fV9z, fV90, fV91, fV92, fV93, fV9f⟩ := (V9_9.out).num
         go_wp2_with fail
         clear fV3z fV30 fV31 fV32 fV33 fV34 fV35 fV36 fV37 fV3f fV6z fV60 fV61 fV62 fV63 fV6f fV9z fV90 fV91 fV92 fV93 fV9f
         refine (K15.out _).mono ?_
         rintro e wx0 ⟨rfl, hq0⟩
         go_wp2_with fail
         go_meet
         exact ⟨_, rfl, hq0.size, OwnC.new' rfl, below_alloc0 hq0 _⟩
        case rest =>
         obtain ⟨bk10, rfl, hle, hO, hB⟩ := hcut
         rename_i uq ur us ut uu uv uw ux uy uz uA uB uC uD uE uF uG uH uI uJ uK uL uM uN uO uP uQ uR uS uT uU uV uW uX uY uZ va vb vc vd ve vf vg vh vi vj vk vl vm vn vo vp vq vr vs vt vu vv vw vx vy vz vA vB vC vD vE vF vG vH vI vJ vK vL vM vN vO vP vQ vR vS vT vU vV vW vX vY vZ za zb zc zd ze zf zg zh zi zj zk zl zm zn zo zp zq zr zs zt zu zv zw zx zy zz zA zB zC zD zE zF zG Kq9 hKq9
         clear uq ur us ut uu uv uw ux uy uz uA uB uC uD uE uF uG uH uI uJ uK uL uM uN uO uP uQ uR uS uT uU uV uW uX uY uZ va vb vc vd ve vf vg vh vi vj vk vl vm vn vo vp vq vr vs vt vu vv vw vx vy vz vA vB vC vD vE vF vG vH vI vJ vK vL vM vN vO vP vQ vR vS vT vU vV vW vX vY vZ za zb zc zd ze zf zg zh zi zj zk zl zm zn zo zp zq zr zs zt zu zv zw zx zy zz zA zB zC zD zE zF zG
         have P0_10 : Hid (OwnC wc (w.heap.size) (ovL x y z)) := OwnC.call P0_9.out hB
         have P1_10 : Hid (OwnC wc (w.heap.size + 1) z12L) := OwnC.call P1_9.out hB
         have W_10 : Hid (Below w.heap.size w wc) := below_call0 W_9.out hB
         have V3_10 : Hid (OwnC wc bk3 (fvL PP)) := OwnC.call V3_9.out hB
         have V5_10 : Hid (OwnC wc bk5 (numL ww)) := OwnC.call V5_9.out hB
         have V6_10 : Hid (OwnC wc bk6 (numL s)) := OwnC.call V6_9.out hB
         have V8_10 : Hid (OwnC wc bk8 (numL b4)) := OwnC.call V8_9.out hB
         have V9_10 : Hid (OwnC wc bk9 (numL hh)) := OwnC.call V9_9.out hB
         have V10_10 : Hid (OwnC wc bk10 (numL hs)) := hO
         clear hB P0_9 P1_9 W_9 V3_9 V5_9 V6_9 V8_9 V9_9
         clear hO hle
         generalize wc = w10 at P0_10 P1_10 W_10 V3_10 V5_10 V6_10 V8_10 V9_10 V10_10 ⊢
         go_upto_region 11 with fail
         go_cut [11] (fun vq11 wx => ∃ bk11, vq11 = .pointer (some ⟨bk11, 0, none⟩) ∧ w10.heap.size ≤ bk11 ∧ OwnC wx bk11 (numL ys) ∧ Below w10.heap.size w10 wx)
         case first =>
          obtain ⟨fP0z, fP00, fP01, fP02, fP03, fP04, fP05, fP06, fP07, fP08, fP09, fP010, fP011, fP0f⟩ := (P0_10.out).ov
          obtain ⟨fV3z, fV30, fV31, fV32, fV33, fV34, fV35, fV36, fV37, fV3f⟩ := (V3_10.out).fv
          obtain ⟨fV6z, fV60, fV61, fV62, fV63, fV6f⟩ := (V6_10.out).num
          go_wp2_with fail
          clear fP0z fP00 fP01 fP02 fP03 fP04 fP05 fP06 fP07 fP08 fP09 fP010 fP011 fP0f fV3z fV30 fV31 fV32 fV33 fV34 fV35 fV36 fV37 fV3f fV6z fV60 fV61 fV62 fV63 fV6f
          refine (K16.out _).mono ?_
          rintro e wx0 ⟨rfl, hq0⟩
          go_wp2_with fail
          go_meet
          exact ⟨_, rfl, hq0.size, OwnC.new' rfl, below_alloc0 hq0 _⟩
         case rest =>
          obtain ⟨bk11, rfl, hle, hO, hB⟩ := hcut
          rename_i uq ur us ut uu uv uw ux uy uz uA uB uC uD uE uF uG uH uI uJ uK uL uM uN uO uP uQ uR uS uT uU uV uW uX uY uZ va vb vc vd ve vf vg vh vi vj vk vl vm vn vo vp vq vr vs vt vu vv vw vx vy vz vA vB vC vD vE vF vG vH vI vJ vK vL vM vN vO vP vQ vR vS vT vU vV vW vX vY vZ za zb zc zd ze zf zg zh zi zj zk zl zm zn zo zp zq zr zs zt zu zv zw zx zy zz zA zB zC zD zE zF zG Kq10 hKq10
          clear uq ur us ut uu uv uw ux uy uz uA uB uC uD uE uF uG uH uI uJ uK uL uM uN uO uP uQ uR uS uT uU uV uW uX uY uZ va vb vc vd ve vf vg vh vi vj vk vl vm vn vo vp vq vr vs vt vu vv vw vx vy vz vA vB vC vD vE vF vG vH vI vJ vK vL vM vN vO vP vQ vR vS vT vU vV vW vX vY vZ za zb zc zd ze zf zg zh zi zj zk zl zm zn zo zp zq zr zs zt zu zv zw zx zy zz zA zB zC zD zE zF zG
          have P1_11 : Hid (OwnC wc (w.heap.size + 1) z12L) := OwnC.call P1_10.out hB
          have W_11 : Hid (Below w.heap.size w wc) := below_call0 W_10.out hB
          have V3_11 : Hid (OwnC wc bk3 (fvL PP)) := OwnC.call V3_10.out hB
          have V5_11 : Hid (OwnC wc bk5 (numL ww)) := OwnC.call V5_10.out hB
          have V6_11 : Hid (OwnC wc bk6 (numL s)) := OwnC.call V6_10.out hB
          have V8_11 : Hid (OwnC wc bk8 (numL b4)) := OwnC.call V8_10.out hB
          have V9_11 : Hid (OwnC wc bk9 (numL hh)) := OwnC.call V9_10.out hB
          have V10_11 : Hid (OwnC wc bk10 (numL hs)) := OwnC.call V10_10.out hB
          have V11_11 : Hid (OwnC wc bk11 (numL ys)) := hO
          clear hB P0_10 P1_10 W_10 V3_10 V5_10 V6_10 V8_10 V9_10 V10_10
          clear hO hle
          generalize wc = w11 at P1_11 W_11 V3_11 V5_11 V6_11 V8_11 V9_11 V10_11 V11_11 ⊢
          go_upto_region 12 with fail
          go_cut [12] (fun vq12 wx => ∃ bk12, vq12 = .pointer (some ⟨bk12, 0, none⟩) ∧ w11.heap.size ≤ bk12 ∧ OwnC wx bk12 (numL y4) ∧ Below w11.heap.size w11 wx)
          case first =>
           obtain ⟨fV11z, fV110, fV111, fV112, fV113, fV11f⟩ := (V11_11.out).num
           obtain ⟨fV3z, fV30, fV31, fV32, fV33, fV34, fV35, fV36, fV37, fV3f⟩ := (V3_11.out).fv
           go_wp2_with fail
           clear fV11z fV110 fV111 fV112 fV113 fV11f fV3z fV30 fV31 fV32 fV33 fV34 fV35 fV36 fV37 fV3f
           refine (K17.out _).mono ?_
           rintro e wx0 ⟨rfl, hq0⟩
           go_wp2_with fail
           go_meet
           exact ⟨_, rfl, hq0.size, OwnC.new' rfl, below_alloc0 hq0 _⟩
          case rest =>
           obtain ⟨bk12, rfl, hle, hO, hB⟩ := hcut
           rename_i uq ur us ut uu uv uw ux uy uz uA uB uC uD uE uF uG uH uI uJ uK uL uM uN uO uP uQ uR uS uT uU uV uW uX uY uZ va vb vc vd ve vf vg vh vi vj vk vl vm vn vo vp vq vr vs vt vu vv vw vx vy vz vA vB vC vD vE vF vG vH vI vJ vK vL vM vN vO vP vQ vR vS vT vU vV vW vX vY vZ za zb zc zd ze zf zg zh zi zj zk zl zm zn zo zp zq zr zs zt zu zv zw zx zy zz zA zB zC zD zE zF zG Kq11 hKq11
           clear uq ur us ut uu uv uw ux uy uz uA uB uC uD uE uF uG uH uI uJ uK uL uM uN uO uP uQ uR uS uT uU uV uW uX uY uZ va vb vc vd ve vf vg vh vi vj vk vl vm vn vo vp vq vr vs vt vu vv vw vx vy vz vA vB vC vD vE vF vG vH vI vJ vK vL vM vN vO vP vQ vR vS vT vU vV vW vX vY vZ za zb zc zd ze zf zg zh zi zj zk zl zm zn zo zp zq zr zs zt zu zv zw zx zy zz zA zB zC zD zE zF zG
           have P1_12 : Hid (OwnC wc (w.heap.size + 1) z12L) := OwnC.call P1_11.out hB
           have W_12 : Hid (Below w.heap.size w wc) := below_call0 W_11.out hB
           have V3_12 : Hid (OwnC wc bk3 (fvL PP)) := OwnC.call V3_11.out hB
           have V5_12 : Hid (OwnC wc bk5 (numL ww)) := OwnC.call V5_11.out hB
           have V6_12 : Hid (OwnC wc bk6 (numL s)) := OwnC.call V6_11.out hB
           have V8_12 : Hid (OwnC wc bk8 (numL b4)) := OwnC.call V8_11.out hB
           have V9_12 : Hid (OwnC wc bk9 (numL hh)) := OwnC.call V9_11.out hB
           have V10_12 : Hid (OwnC wc bk10 (numL hs)) := OwnC.call V10_11.out hB
           have V12_12 : Hid (OwnC wc bk12 (numL y4)) := hO
           clear hB P1_11 W_11 V3_11 V5_11 V6_11 V8_11 V9_11 V10_11 V11_11
           clear hO hle
           generalize wc = w12 at P1_12 W_12 V3_12 V5_12 V6_12 V8_12 V9_12 V10_12 V12_12 ⊢
           go_upto_region 13 with fail
           go_cut [13] (fun vq13 wx => ∃ bk13, vq13 = .pointer (some ⟨bk13, 0, none⟩) ∧ w12.heap.size ≤ bk13 ∧ OwnC wx bk13 (numL ee) ∧ Below w12.heap.size w12 wx)
           case first =>
            refine wp_region_I 11 0 10 [?v0r13, ?v1r13, ?v2r13, ?v3r13, ?v4r13, ?v5r13, ?v6r13, ?v7r13, ?v8r13, ?v9r13, undef] [some 88, some 89, some 90, some 91, some 92, some 93, some 94, some 95, some 96, some 97, some 13] (fun w b => OwnC w b z4L) ?Ar13 ?oar13 (by kernel_rfl) (by kernel_rfl) (by kernel_rfl) rfl ?hAr13 (fun _ _ _ h hb => h.call hb) ?hopr13 ?hoar13 (by decide) ?halr13 ?hfinr13
            case hAr13 =>
             intro bq
             simp only [List.set_cons_zero, List.set_cons_succ, List.zip_cons_cons, List.zip_nil_right, fillD, Act.put, List.setIfInBounds_toArray]
             exact rfl
            case hopr13 =>
             refine ⟨?_, ?_, ?_, ?_, ?_, ?_, ?_, ?_, ?_, ?_, fun h => absurd rfl h, trivial⟩
             iterate 2 focus (intro _ bq wx hS; refine OpTo.yields rfl ?_; obtain ⟨_, _, _, _, _, _, _, _, _, _⟩ := (OwnC.call V3_12.out hS).fv; clear hS; go_simp; try with_reducible rfl)
             iterate 2 focus (intro _ bq wx hS; refine OpTo.yields rfl ?_; obtain ⟨_, _, _, _, _, _⟩ := (OwnC.call V12_12.out hS).num; clear hS; go_simp; try with_reducible rfl)
             focus (intro _ bq wx hS; refine OpTo.calls rfl ?_ ?_; rotate_left; intro K hK; go_simp; refine (K18.out _).mono ?_; rintro e w' ⟨rfl, hq⟩; exact hK w' hq; exact rfl)
             focus (intro _ bq wx hS; refine OpTo.yields rfl ?_; obtain ⟨_, _, _, _, _, _, _, _, _, _⟩ := (OwnC.call V3_12.out hS).fv; clear hS; go_simp; try with_reducible rfl)
             iterate 2 focus (intro _ bq wx hS; refine OpTo.yields rfl ?_; obtain ⟨_, _, _, _, _, _⟩ := (OwnC.call V12_12.out hS).num; clear hS; go_simp; try with_reducible rfl)
             focus (intro _ bq wx hS; refine OpTo.calls rfl ?_ ?_; rotate_left; intro K hK; go_simp; refine (K18.out _).mono ?_; rintro e w' ⟨rfl, hq⟩; exact hK w' hq; exact rfl)
             focus (intro _ bq wx hS; refine OpTo.calls rfl ?_ ?_; rotate_left; intro K hK; go_simp; refine (K19.out _).mono ?_; rintro e w' ⟨rfl, hq⟩; exact hK w' hq; exact rfl)
            case hoar13 =>
             rw [List.getElem?_toArray]
             exact rfl
            case halr13 =>
             intro bq wx hS
             refine OpTo.make (ob := ?obr13) (B := fun w b => OwnC w b z4L) hS rfl ?runr13 ?ownr13
             case runr13 =>
              go_simp
              try with_reducible rfl
             case ownr13 => exact OwnC.new' rfl
            case hfinr13 =>
             intro bq wx hS hB hle
             refine tail_at (o := ?ofr13_11) ?hir13_11 ?hwr13_11 ?_
             case hir13_11 => rw [List.getElem?_toArray]; exact rfl
             case hwr13_11 => exact rfl
             obtain ⟨gz, g0, g1, g2, g3, gf⟩ := hB.z4
             go_simp
             clear gz g0 g1 g2 g3 gf
             refine tail_end ?_
             go_wp2_with fail
             go_meet
             exact ⟨bq, rfl, hle, OwnC.put (numL ee) hB rfl, below_putL hle (numL ee) 0 _ hS⟩
           case rest =>
            obtain ⟨bk13, rfl, hle, hO, hB⟩ := hcut
            rename_i uq ur us ut uu uv uw ux uy uz uA uB uC uD uE uF uG uH uI uJ uK uL uM uN uO uP uQ uR uS uT uU uV uW uX uY uZ va vb vc vd ve vf vg vh vi vj vk vl vm vn vo vp vq vr vs vt vu vv vw vx vy vz vA vB vC vD vE vF vG vH vI vJ vK vL vM vN vO vP vQ vR vS vT vU vV vW vX vY vZ za zb zc zd ze zf zg zh zi zj zk zl zm zn zo zp zq zr zs zt zu zv zw zx zy zz zA zB zC zD zE zF zG Kq12 hKq12
            clear uq ur us ut uu uv uw ux uy uz uA uB uC uD uE uF uG uH uI uJ uK uL uM uN uO uP uQ uR uS uT uU uV uW uX uY uZ va vb vc vd ve vf vg vh vi vj vk vl vm vn vo vp vq vr vs vt vu vv vw vx vy vz vA vB vC vD vE vF vG vH vI vJ vK vL vM vN vO vP vQ vR vS vT vU vV vW vX vY vZ za zb zc zd ze zf zg zh zi zj zk zl zm zn zo zp zq zr zs zt zu zv zw zx zy zz zA zB zC zD zE zF zG
            have P1_13 : Hid (OwnC wc (w.heap.size + 1) z12L) := OwnC.call P1_12.out hB
            have W_13 : Hid (Below w.heap.size w wc) := below_call0 W_12.out hB
            have V3_13 : Hid (OwnC wc bk3 (fvL PP)) := OwnC.call V3_12.out hB
            have V5_13 : Hid (OwnC wc bk5 (numL ww)) := OwnC.call V5_12.out hB
            have V6_13 : Hid (OwnC wc bk6 (numL s)) := OwnC.call V6_12.out hB
            have V8_13 : Hid (OwnC wc bk8 (numL b4)) := OwnC.call V8_12.out hB
            have V9_13 : Hid (OwnC wc bk9 (numL hh)) := OwnC.call V9_12.out hB
            have V10_13 : Hid (OwnC wc bk10 (numL hs)) := OwnC.call V10_12.out hB
            have V13_13 : Hid (OwnC wc bk13 (numL ee)) := hO
            clear hB P1_12 W_12 V3_12 V5_12 V6_12 V8_12 V9_12 V10_12 V12_12
            clear hO hle
            generalize wc = w13 at P1_13 W_13 V3_13 V5_13 V6_13 V8_13 V9_13 V10_13 V13_13 ⊢
            go_upto_region 14 with fail
            go_cut [14] (fun vq14 wx => ∃ bk14, vq14 = .pointer (some ⟨bk14, 0, none⟩) ∧ w13.heap.size ≤ bk14 ∧ OwnC wx bk14 (numL s3) ∧ Below w13.heap.size w13 wx)
            case first =>
             refine wp_region_I 8 0 7 [?v0r14, ?v1r14, ?v2r14, ?v3r14, ?v4r14, ?v5r14, ?v6r14, undef] [some 98, some 99, some 100, some 101, some 102, some 103, some 104, some 14] (fun w b => OwnC w b z4L) ?Ar14 ?oar14 (by kernel_rfl) (by kernel_rfl) (by kernel_rfl) rfl ?hAr14 (fun _ _ _ h hb => h.call hb) ?hopr14 ?hoar14 (by decide) ?halr14 ?hfinr14
             case hAr14 =>
              intro bq
              simp only [List.set_cons_zero, List.set_cons_succ, List.zip_cons_cons, List.zip_nil_right, fillD, Act.put, List.setIfInBounds_toArray]
              exact rfl
             case hopr14 =>
              refine ⟨?_, ?_, ?_, ?_, ?_, ?_, ?_, fun h => absurd rfl h, trivial⟩
              iterate 2 focus (intro _ bq wx hS; refine OpTo.yields rfl ?_; obtain ⟨_, _, _, _, _, _, _, _, _, _⟩ := (OwnC.call V3_13.out hS).fv; clear hS; go_simp; try with_reducible rfl)
              iterate 2 focus (intro _ bq wx hS; refine OpTo.yields rfl ?_; obtain ⟨_, _, _, _, _, _⟩ := (OwnC.call V6_13.out hS).num; clear hS; go_simp; try with_reducible rfl)
              focus (intro _ bq wx hS; refine OpTo.calls rfl ?_ ?_; rotate_left; intro K hK; go_simp; refine (K20.out _).mono ?_; rintro e w' ⟨rfl, hq⟩; exact hK w' hq; exact rfl)
              focus (intro _ bq wx hS; refine OpTo.yields rfl ?_; obtain ⟨_, _, _, _, _, _⟩ := (OwnC.call V6_13.out hS).num; clear hS; go_simp; try with_reducible rfl)
              focus (intro _ bq wx hS; refine OpTo.calls rfl ?_ ?_; rotate_left; intro K hK; go_simp; refine (K21.out _).mono ?_; rintro e w' ⟨rfl, hq⟩; exact hK w' hq; exact rfl)
             case hoar14 =>
              rw [List.getElem?_toArray]
              exact rfl
             case halr14 =>
              intro bq wx hS
              refine OpTo.make (ob := ?obr14) (B := fun w b => OwnC w b z4L) hS rfl ?runr14 ?ownr14
              case runr14 =>
               go_simp
               try with_reducible rfl
              case ownr14 => exact OwnC.new' rfl
             case hfinr14 =>
              intro bq wx hS hB hle
              refine tail_at (o := ?ofr14_8) ?hir14_8 ?hwr14_8 ?_
              case hir14_8 => rw [List.getElem?_toArray]; exact rfl
              case hwr14_8 => exact rfl
              obtain ⟨gz, g0, g1, g2, g3, gf⟩ := hB.z4
              go_simp
              clear gz g0 g1 g2 g3 gf
              refine tail_end ?_
              go_wp2_with fail
              go_meet
              exact ⟨bq, rfl, hle, OwnC.put (numL s3) hB rfl, below_putL hle (numL s3) 0 _ hS⟩
            case rest =>
             obtain ⟨bk14, rfl, hle, hO, hB⟩ := hcut
             rename_i uq ur us ut uu uv uw ux uy uz uA uB uC uD uE uF uG uH uI uJ uK uL uM uN uO uP uQ uR uS uT uU uV uW uX uY uZ va vb vc vd ve vf vg vh vi vj vk vl vm vn vo vp vq vr vs vt vu vv vw vx vy vz vA vB vC vD vE vF vG vH vI vJ vK vL vM vN vO vP vQ vR vS vT vU vV vW vX vY vZ za zb zc zd ze zf zg zh zi zj zk zl zm zn zo zp zq zr zs zt zu zv zw zx zy zz zA zB zC zD zE zF zG Kq13 hKq13
             clear uq ur us ut uu uv uw ux uy uz uA uB uC uD uE uF uG uH uI uJ uK uL uM uN uO uP uQ uR uS uT uU uV uW uX uY uZ va vb vc vd ve vf vg vh vi vj vk vl vm vn vo vp vq vr vs vt vu vv vw vx vy vz vA vB vC vD vE vF vG vH vI vJ vK vL vM vN vO vP vQ vR vS vT vU vV vW vX vY vZ za zb zc zd ze zf zg zh zi zj zk zl zm zn zo zp zq zr zs zt zu zv zw zx zy zz zA zB zC zD zE zF zG
             have P1_14 : Hid (OwnC wc (w.heap.size + 1) z12L) := OwnC.call P1_13.out hB
             have W_14 : Hid (Below w.heap.size w wc) := below_call0 W_13.out hB
             have V3_14 : Hid (OwnC wc bk3 (fvL PP)) := OwnC.call V3_13.out hB
             have V5_14 : Hid (OwnC wc bk5 (numL ww)) := OwnC.call V5_13.out hB
             have V8_14 : Hid (OwnC wc bk8 (numL b4)) := OwnC.call V8_13.out hB
             have V9_14 : Hid (OwnC wc bk9 (numL hh)) := OwnC.call V9_13.out hB
             have V10_14 : Hid (OwnC wc bk10 (numL hs)) := OwnC.call V10_13.out hB
             have V13_14 : Hid (OwnC wc bk13 (numL ee)) := OwnC.call V13_13.out hB
             have V14_14 : Hid (OwnC wc bk14 (numL s3)) := hO
             clear hB P1_13 W_13 V3_13 V5_13 V6_13 V8_13 V9_13 V10_13 V13_13
             clear hO hle
             generalize wc = w14 at P1_14 W_14 V3_14 V5_14 V8_14 V9_14 V10_14 V13_14 V14_14 ⊢
             go_upto_region 15 with fail
             go_cut [15] (fun vq15 wx => ∃ bk15, vq15 = .pointer (some ⟨bk15, 0, none⟩) ∧ w14.heap.size ≤ bk15 ∧ OwnC wx bk15 (numL zz) ∧ Below w14.heap.size w14 wx)
             case first =>
              refine wp_region_I 11 0 10 [?v0r15, ?v1r15, ?v2r15, ?v3r15, ?v4r15, ?v5r15, ?v6r15, ?v7r15, ?v8r15, ?v9r15, undef] [some 105, some 106, some 107, some 108, some 109, some 110, some 111, some 112, some 113, some 114, some 15] (fun w b => OwnC w b z4L) ?Ar15 ?oar15 (by kernel_rfl) (by kernel_rfl) (by kernel_rfl) rfl ?hAr15 (fun _ _ _ h hb => h.call hb) ?hopr15 ?hoar15 (by decide) ?halr15 ?hfinr15
              case hAr15 =>
               intro bq
               simp only [List.set_cons_zero, List.set_cons_succ, List.zip_cons_cons, List.zip_nil_right, fillD, Act.put, List.setIfInBounds_toArray]
               exact rfl
              case hopr15 =>
               refine ⟨?_, ?_, ?_, ?_, ?_, ?_, ?_, ?_, ?_, ?_, fun h => absurd rfl h, trivial⟩
               iterate 2 focus (intro _ bq wx hS; refine OpTo.yields rfl ?_; obtain ⟨_, _, _, _, _, _, _, _, _, _⟩ := (OwnC.call V3_14.out hS).fv; clear hS; go_simp; try with_reducible rfl)
               iterate 2 focus (intro _ bq wx hS; refine OpTo.yields rfl ?_; obtain ⟨_, _, _, _, _, _⟩ := (OwnC.call V14_14.out hS).num; clear hS; go_simp; try with_reducible rfl)
               focus (intro _ bq wx hS; refine OpTo.calls rfl ?_ ?_; rotate_left; intro K hK; go_simp; refine (K22.out _).mono ?_; rintro e w' ⟨rfl, hq⟩; exact hK w' hq; exact rfl)
               focus (intro _ bq wx hS; refine OpTo.yields rfl ?_; obtain ⟨_, _, _, _, _, _, _, _, _, _⟩ := (OwnC.call V3_14.out hS).fv; clear hS; go_simp; try with_reducible rfl)
               iterate 2 focus (intro _ bq wx hS; refine OpTo.yields rfl ?_; obtain ⟨_, _, _, _, _, _⟩ := (OwnC.call V14_14.out hS).num; clear hS; go_simp; try with_reducible rfl)
               focus (intro _ bq wx hS; refine OpTo.calls rfl ?_ ?_; rotate_left; intro K hK; go_simp; refine (K22.out _).mono ?_; rintro e w' ⟨rfl, hq⟩; exact hK w' hq; exact rfl)
               focus (intro _ bq wx hS; refine OpTo.calls rfl ?_ ?_; rotate_left; intro K hK; go_simp; refine (K23.out _).mono ?_; rintro e w' ⟨rfl, hq⟩; exact hK w' hq; exact rfl)
              case hoar15 =>
               rw [List.getElem?_toArray]
               exact rfl
              case halr15 =>
               intro bq wx hS
               refine OpTo.make (ob := ?obr15) (B := fun w b => OwnC w b z4L) hS rfl ?runr15 ?ownr15
               case runr15 =>
                go_simp
                try with_reducible rfl
               case ownr15 => exact OwnC.new' rfl
              case hfinr15 =>
               intro bq wx hS hB hle
               refine tail_at (o := ?ofr15_11) ?hir15_11 ?hwr15_11 ?_
               case hir15_11 => rw [List.getElem?_toArray]; exact rfl
               case hwr15_11 => exact rfl
               obtain ⟨gz, g0, g1, g2, g3, gf⟩ := hB.z4
               go_simp
               clear gz g0 g1 g2 g3 gf
               refine tail_end ?_
               go_wp2_with fail
               go_meet
               exact ⟨bq, rfl, hle, OwnC.put (numL zz) hB rfl, below_putL hle (numL zz) 0 _ hS⟩
             case rest =>
              obtain ⟨bk15, rfl, hle, hO, hB⟩ := hcut
              rename_i uq ur us ut uu uv uw ux uy uz uA uB uC uD uE uF uG uH uI uJ uK uL uM uN uO uP uQ uR uS uT uU uV uW uX uY uZ va vb vc vd ve vf vg vh vi vj vk vl vm vn vo vp vq vr vs vt vu vv vw vx vy vz vA vB vC vD vE vF vG vH vI vJ vK vL vM vN vO vP vQ vR vS vT vU vV vW vX vY vZ za zb zc zd ze zf zg zh zi zj zk zl zm zn zo zp zq zr zs zt zu zv zw zx zy zz zA zB zC zD zE zF zG Kq14 hKq14
              clear uq ur us ut uu uv uw ux uy uz uA uB uC uD uE uF uG uH uI uJ uK uL uM uN uO uP uQ uR uS uT uU uV uW uX uY uZ va vb vc vd ve vf vg vh vi vj vk vl vm vn vo vp vq vr vs vt vu vv vw vx vy vz vA vB vC vD vE vF vG vH vI vJ vK vL vM vN vO vP vQ vR vS vT vU vV vW vX vY vZ za zb zc zd ze zf zg zh zi zj zk zl zm zn zo zp zq zr zs zt zu zv zw zx zy zz zA zB zC zD zE zF zG
              have P1_15 : Hid (OwnC wc (w.heap.size + 1) z12L) := OwnC.call P1_14.out hB
              have W_15 : Hid (Below w.heap.size w wc) := below_call0 W_14.out hB
              have V3_15 : Hid (OwnC wc bk3 (fvL PP)) := OwnC.call V3_14.out hB
              have V5_15 : Hid (OwnC wc bk5 (numL ww)) := OwnC.call V5_14.out hB
              have V8_15 : Hid (OwnC wc bk8 (numL b4)) := OwnC.call V8_14.out hB
              have V9_15 : Hid (OwnC wc bk9 (numL hh)) := OwnC.call V9_14.out hB
              have V10_15 : Hid (OwnC wc bk10 (numL hs)) := OwnC.call V10_14.out hB
              have V13_15 : Hid (OwnC wc bk13 (numL ee)) := OwnC.call V13_14.out hB
              have V15_15 : Hid (OwnC wc bk15 (numL zz)) := hO
              clear hB P1_14 W_14 V3_14 V5_14 V8_14 V9_14 V10_14 V13_14 V14_14
              clear hO hle
              generalize wc = w15 at P1_15 W_15 V3_15 V5_15 V8_15 V9_15 V10_15 V13_15 V15_15 ⊢
              go_upto_region 16 with fail
              refine wp_region_J 22 0 [?v0r16, ?v1r16, ?v2r16, ?v3r16, ?v4r16, ?v5r16, ?v6r16, ?v7r16, ?v8r16, ?v9r16, ?v10r16, ?v11r16, ?v12r16, ?v13r16, ?v14r16, ?v15r16, ?v16r16, ?v17r16, ?v18r16, ?v19r16, ?v20r16, ?v21r16] [some 115, some 116, some 117, some 118, some 119, some 120, some 121, some 122, some 123, some 124, some 125, some 126, some 127, some 128, some 129, some 130, some 131, some 132, some 133, some 134, some 135, some 136] ?Ar16 (by kernel_rfl) (by kernel_rfl) (by kernel_rfl) rfl ?hAr16 ?hopr16 ?hfinr16
              case hAr16 =>
               simp only [List.set_cons_zero, List.set_cons_succ, List.zip_cons_cons, List.zip_nil_right, fillD, Act.put, List.setIfInBounds_toArray]
               exact rfl
              case hopr16 =>
               refine ⟨?_, ?_, ?_, ?_, ?_, ?_, ?_, ?_, ?_, ?_, ?_, ?_, ?_, ?_, ?_, ?_, ?_, ?_, ?_, ?_, ?_, ?_, trivial⟩
               focus (intro _ bq wx hS; refine OpTo.yields rfl ?_; obtain ⟨_, _, _, _, _, _, _, _, _, _⟩ := (OwnC.call V3_15.out hS).fv; clear hS; go_simp; try with_reducible rfl)
               iterate 2 focus (intro _ bq wx hS; refine OpTo.yields rfl ?_; obtain ⟨_, _, _, _, _, _⟩ := (OwnC.call V10_15.out hS).num; clear hS; go_simp; try with_reducible rfl)
               focus (intro _ bq wx hS; refine OpTo.calls rfl ?_ ?_; rotate_left; intro K hK; go_simp; refine (K24.out _).mono ?_; rintro e w' ⟨rfl, hq⟩; exact hK w' hq; exact rfl)
               iterate 2 focus (intro _ bq wx hS; refine OpTo.yields rfl ?_; obtain ⟨_, _, _, _, _, _, _, _, _, _⟩ := (OwnC.call V3_15.out hS).fv; clear hS; go_simp; try with_reducible rfl)
               focus (intro _ bq wx hS; refine OpTo.yields rfl ?_; obtain ⟨_, _, _, _, _, _⟩ := (OwnC.call V5_15.out hS).num; clear hS; go_simp; try with_reducible rfl)
               focus (intro _ bq wx hS; refine OpTo.yields rfl ?_; obtain ⟨_, _, _, _, _, _, _, _, _, _⟩ := (OwnC.call V3_15.out hS).fv; clear hS; go_simp; try with_reducible rfl)
               focus (intro _ bq wx hS; refine OpTo.yields rfl ?_; obtain ⟨_, _, _, _, _, _⟩ := (OwnC.call V8_15.out hS).num; clear hS; go_simp; try with_reducible rfl)
               focus (intro _ bq wx hS; refine OpTo.yields rfl ?_; obtain ⟨_, _, _, _, _, _⟩ := (OwnC.call V9_15.out hS).num; clear hS; go_simp; try with_reducible rfl)
               focus (intro _ bq wx hS; refine OpTo.calls rfl ?_ ?_; rotate_left; intro K hK; go_simp; refine (K25.out _).mono ?_; rintro e w' ⟨rfl, hq⟩; exact hK w' hq; exact rfl)
               focus (intro _ bq wx hS; refine OpTo.calls rfl ?_ ?_; rotate_left; intro K hK; go_simp; refine (K26.out _).mono ?_; rintro e w' ⟨rfl, hq⟩; exact hK w' hq; exact rfl)
               focus (intro _ bq wx hS; refine OpTo.yields rfl ?_; obtain ⟨_, _, _, _, _, _, _, _, _, _⟩ := (OwnC.call V3_15.out hS).fv; clear hS; go_simp; try with_reducible rfl)
               iterate 2 focus (intro _ bq wx hS; refine OpTo.yields rfl ?_; obtain ⟨_, _, _, _, _, _⟩ := (OwnC.call V13_15.out hS).num; clear hS; go_simp; try with_reducible rfl)
               focus (intro _ bq wx hS; refine OpTo.calls rfl ?_ ?_; rotate_left; intro K hK; go_simp; refine (K27.out _).mono ?_; rintro e w' ⟨rfl, hq⟩; exact hK w' hq; exact rfl)
               focus (intro _ bq wx hS; refine OpTo.calls rfl ?_ ?_; rotate_left; intro K hK; go_simp; refine (K28.out _).mono ?_; rintro e w' ⟨rfl, hq⟩; exact hK w' hq; exact rfl)
               focus (intro _ bq wx hS; refine OpTo.yields rfl ?_; obtain ⟨_, _, _, _, _, _, _, _, _, _⟩ := (OwnC.call V3_15.out hS).fv; clear hS; go_simp; try with_reducible rfl)
               iterate 2 focus (intro _ bq wx hS; refine OpTo.yields rfl ?_; obtain ⟨_, _, _, _, _, _⟩ := (OwnC.call V15_15.out hS).num; clear hS; go_simp; try with_reducible rfl)
               focus (intro _ bq wx hS; refine OpTo.calls rfl ?_ ?_; rotate_left; intro K hK; go_simp; refine (K29.out _).mono ?_; rintro e w' ⟨rfl, hq⟩; exact hK w' hq; exact rfl)
               focus (intro _ bq wx hS; refine OpTo.yields rfl ?_; clear hS; go_simp; try with_reducible rfl)
              case hfinr16 =>
               intro wx hS
               refine tail_at (o := ?ofr16_22) ?hir16_22 ?hwr16_22 ?_
               case hir16_22 => rw [List.getElem?_toArray]; exact rfl
               case hwr16_22 => exact rfl
               obtain ⟨gP1z, gP10, gP11, gP12, gP13, gP14, gP15, gP16, gP17, gP18, gP19, gP110, gP111, gP1f⟩ := (OwnC.call P1_15.out hS).z12
               go_simp
               clear gP1z gP10 gP11 gP12 gP13 gP14 gP15 gP16 gP17 gP18 gP19 gP110 gP111 gP1f
               refine tail_end ?_
               obtain ⟨wz, hwz⟩ : ∃ wq, wq = ((((((((((((wx.setCell ⟨(w.heap.size + 1), 0, none⟩ (.int .u64 (limb (X) 0 : Nat))).setCell ⟨(w.heap.size + 1), 1, none⟩ (.int .u64 (limb (X) 1 : Nat))).setCell ⟨(w.heap.size + 1), 2, none⟩ (.int .u64 (limb (X) 2 : Nat))).setCell ⟨(w.heap.size + 1), 3, none⟩ (.int .u64 (limb (X) 3 : Nat))).setCell ⟨(w.heap.size + 1), 4, none⟩ (.int .u64 (limb (Y) 0 : Nat))).setCell ⟨(w.heap.size + 1), 5, none⟩ (.int .u64 (limb (Y) 1 : Nat))).setCell ⟨(w.heap.size + 1), 6, none⟩ (.int .u64 (limb (Y) 2 : Nat))).setCell ⟨(w.heap.size + 1), 7, none⟩ (.int .u64 (limb (Y) 3 : Nat))).setCell ⟨(w.heap.size + 1), 8, none⟩ (.int .u64 (limb (Z) 0 : Nat))).setCell ⟨(w.heap.size + 1), 9, none⟩ (.int .u64 (limb (Z) 1 : Nat))).setCell ⟨(w.heap.size + 1), 10, none⟩ (.int .u64 (limb (Z) 2 : Nat))).setCell ⟨(w.heap.size + 1), 11, none⟩ (.int .u64 (limb (Z) 3 : Nat))) := ⟨_, rfl⟩
               rw [← hwz]
               have hwy : wz = putL (w.heap.size + 1) 0 (ovL X Y Z) wx := hwz
               have HZ : OwnC wz (w.heap.size + 1) (ovL X Y Z) ∧ Below w.heap.size w wz := by
                rw [hwy]
                exact ⟨OwnC.put (ovL X Y Z) (OwnC.call P1_15.out hS) rfl, below_putL (Nat.le_succ_of_le (Nat.le_refl _)) (ovL X Y Z) 0 _ (below_call0 W_15.out hS)⟩
               clear hwz hwy
               obtain ⟨hO, HB⟩ := HZ
               obtain ⟨rz, r0, r1, r2, r3, r4, r5, r6, r7, r8, r9, r10, r11, rf⟩ := hO.ov
               rename_i Kz hKz
               refine hKz _ _ ?_
               refine wp_ret ?_
               refine bodyPost_ret (v := .agg #[.int .u64 (limb (X) 0 : Nat), .int .u64 (limb (X) 1 : Nat), .int .u64 (limb (X) 2 : Nat), .int .u64 (limb (X) 3 : Nat), .int .u64 (limb (Y) 0 : Nat), .int .u64 (limb (Y) 1 : Nat), .int .u64 (limb (Y) 2 : Nat), .int .u64 (limb (Y) 3 : Nat), .int .u64 (limb (Z) 0 : Nat), .int .u64 (limb (Z) 1 : Nat), .int .u64 (limb (Z) 2 : Nat), .int .u64 (limb (Z) 3 : Nat)]) ?_ rfl ⟨rfl, HB⟩
               simp [results, Tryd.results43, go_sem, r0, r1, r2, r3, r4, r5, r6, r7, r8, r9, r10, r11]
end Go.Proofs.YtfkpbcionlidaaaDoor
