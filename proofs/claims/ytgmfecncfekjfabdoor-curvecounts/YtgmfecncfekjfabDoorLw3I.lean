/- Scalars in the curve's laws; multiples mod Q. -/
import Derived.Test.YtgmfecncfekjfabDoorLw3A
import Derived.Test.YtgmfecncfekjfabDoorCvSu
import Derived.Test.YtgmfecncfekjfabDoorHeldB
import Derived.Test.YtgmfecncfekjfabDoorRef2F
namespace Go.Proofs.YtgmfecncfekjfabDoor
open Go Go.RowKit Go.Lib
attribute [local go_sem] run_eqP run_eq49 eq4_same beqB_same

theorem Pend.newC {W : World} {b : Nat} {t : TypeId} (h : b = W.heap.size) : Pend (W.alloc (.cells #[.int .u64 0, .int .u64 0, .int .u64 0, .int .u64 0] t)) b := by subst h; exact Pend.new W t
theorem QQ_pos2 : 0 < QQ := of_decide_eq_true (by kernel_rfl)
theorem wide_low {a : Nat} (h : a < R256) : a < R256 * R256 := Nat.lt_of_lt_of_le h (Nat.le_mul_of_pos_right R256 (by decide))
theorem high_0 {a k : Nat} (h : a < R256) (hk : 4 ≤ k) : (limb a k : Int) = 0 := by
  have e : limb a k = 0 := by
    have hlt : a < M64 ^ k := Nat.lt_of_lt_of_le h (Nat.le_trans (show R256 ≤ M64 ^ 4 by decide) (Nat.pow_le_pow_right (by decide) hk))
    unfold limb
    rw [Nat.div_eq_of_lt hlt]
    exact Nat.zero_mod _
  rw [e]; rfl
theorem gr_mod (n : Nat) (p : Pts) : gr.mul (n % QQ) p = gr.mul n p := by
  have e : n = n / QQ * QQ + n % QQ := by
    rw [Nat.mul_comm]
    exact (Nat.div_add_mod n QQ).symm
  have h : gr.mul n p = gr.mul (n / QQ * QQ + n % QQ) p := by rw [← e]
  rw [h, gr.mul_add, gr.mul_mul, order_any, gr.mul_z, gr.zero']
set_option maxRecDepth 100000 in
set_option maxHeartbeats 4000000 in
theorem inq_any (a r : Nat) (ha : a < R256) (hr : r = a % QQ) (w : World) : Calls Tryd.prog 7 #[.agg #[.int .u64 (limb (a) 0 : Nat), .int .u64 (limb (a) 1 : Nat), .int .u64 (limb (a) 2 : Nat), .int .u64 (limb (a) 3 : Nat)]] w fun e w' => e = .returned (.agg #[.int .u64 (limb (r) 0 : Nat), .int .u64 (limb (r) 1 : Nat), .int .u64 (limb (r) 2 : Nat), .int .u64 (limb (r) 3 : Nat)]) ∧ Below w.heap.size w w' := by
  have K1 : Hid (∀ w, Calls Tryd.prog 20 #[] w fun e w' => e = .returned (.agg #[.int .u64 (limb (QQ) 0 : Nat), .int .u64 (limb (QQ) 1 : Nat), .int .u64 (limb (QQ) 2 : Nat), .int .u64 (limb (QQ) 3 : Nat), .int .u64 (limb (R256 - (QQ)) 0 : Nat), .int .u64 (limb (R256 - (QQ)) 1 : Nat), .int .u64 (limb (R256 - (QQ)) 2 : Nat), .int .u64 (limb (R256 - (QQ)) 3 : Nat)]) ∧ Below w.heap.size w w') := fun w => scalars2_any w
  have K2 : Hid (∀ w, Calls Tryd.prog 21 #[.agg #[.int .u64 (limb (QQ) 0 : Nat), .int .u64 (limb (QQ) 1 : Nat), .int .u64 (limb (QQ) 2 : Nat), .int .u64 (limb (QQ) 3 : Nat), .int .u64 (limb (R256 - (QQ)) 0 : Nat), .int .u64 (limb (R256 - (QQ)) 1 : Nat), .int .u64 (limb (R256 - (QQ)) 2 : Nat), .int .u64 (limb (R256 - (QQ)) 3 : Nat)], .agg #[.int .u64 (limb (a) 0 : Nat), .int .u64 (limb (a) 1 : Nat), .int .u64 (limb (a) 2 : Nat), .int .u64 (limb (a) 3 : Nat), .int .u64 0, .int .u64 0, .int .u64 0, .int .u64 0]] w fun e w' => e = .returned (.agg #[.int .u64 (limb (r) 0 : Nat), .int .u64 (limb (r) 1 : Nat), .int .u64 (limb (r) 2 : Nat), .int .u64 (limb (r) 3 : Nat)]) ∧ Below w.heap.size w w') := fun w => by have k := reduce2_any QQ a FM_Q FS_Q (wide_low ha) w; rw [high_0 (k := 4) ha (by decide), high_0 (k := 5) ha (by decide), high_0 (k := 6) ha (by decide), high_0 (k := 7) ha (by decide), ← hr] at k; exact k
  obtain ⟨w0, hw0⟩ : ∃ wq, wq = ((w.alloc (.cells #[.int .u64 (limb (a) 0 : Nat), .int .u64 (limb (a) 1 : Nat), .int .u64 (limb (a) 2 : Nat), .int .u64 (limb (a) 3 : Nat)] 24)).alloc (.cells #[.int .u64 0, .int .u64 0, .int .u64 0, .int .u64 0] 24)) := ⟨_, rfl⟩
  have H0 : Hid (OwnC w0 (w.heap.size) (numL a)) ∧ Hid (OwnC w0 (w.heap.size + 1) z4L) ∧ Hid (Below w.heap.size w w0) := by
    rw [hw0]
    exact ⟨(OwnC.new' rfl).alloc, (OwnC.new' (by simp only [World.size_alloc])), below_alloc0 (below_alloc0 (Below.refl _ _) _) _⟩
  obtain ⟨P0_0, P1_0, W_0⟩ := H0
  clear ha hr
  go_enter Tryd.func7, Tryd.ntmps7
  go_upto_region 1 with fail
  rw [← hw0]
  clear hw0
  go_upto_region 1 with fail
  go_cut [3] (fun vq3 wx => ∃ bk3, vq3 = .pointer (some ⟨bk3, 0, none⟩) ∧ w0.heap.size ≤ bk3 ∧ OwnC wx bk3 (fvL QQ) ∧ Below w0.heap.size w0 wx)
  case first =>
    go_wp2_with fail
    refine (K1.out _).mono ?_
    rintro e wx0 ⟨rfl, hq0⟩
    go_wp2_with fail
    go_meet
    exact ⟨_, rfl, hq0.size, OwnC.new' rfl, below_alloc0 hq0 _⟩
  case rest =>
    obtain ⟨bk3, rfl, hle, hO, hB⟩ := hcut
    have P0_1 : Hid (OwnC wc (w.heap.size) (numL a)) := OwnC.call P0_0.out hB
    have P1_1 : Hid (OwnC wc (w.heap.size + 1) z4L) := OwnC.call P1_0.out hB
    have W_1 : Hid (Below w.heap.size w wc) := below_call0 W_0.out hB
    have V3_1 : Hid (OwnC wc bk3 (fvL QQ)) := hO
    clear hB P0_0 P1_0 W_0
    clear hO hle
    generalize wc = w1 at P0_1 P1_1 W_1 V3_1 ⊢
    obtain ⟨fP0z, fP00, fP01, fP02, fP03, fP0f⟩ := (P0_1.out).num
    obtain ⟨fV3z, fV30, fV31, fV32, fV33, fV34, fV35, fV36, fV37, fV3f⟩ := (V3_1.out).fv
    obtain ⟨fP1z, fP10, fP11, fP12, fP13, fP1f⟩ := (P1_1.out).z4
    go_wp2_with fail
    clear fP0z fP00 fP01 fP02 fP03 fP0f fV3z fV30 fV31 fV32 fV33 fV34 fV35 fV36 fV37 fV3f fP1z fP10 fP11 fP12 fP13 fP1f
    refine (K2.out _).mono ?_
    rintro e w2 ⟨rfl, hq⟩
    have P0_2 : Hid (OwnC w2 (w.heap.size) (numL a)) := OwnC.call P0_1.out hq
    have P1_2 : Hid (OwnC w2 (w.heap.size + 1) z4L) := OwnC.call P1_1.out hq
    have W_2 : Hid (Below w.heap.size w w2) := below_call0 W_1.out hq
    have V3_2 : Hid (OwnC w2 bk3 (fvL QQ)) := OwnC.call V3_1.out hq
    clear hq P0_1 P1_1 W_1 V3_1
    obtain ⟨fP1z, fP10, fP11, fP12, fP13, fP1f⟩ := (P1_2.out).z4
    go_wp2_with fail
    clear fP1z fP10 fP11 fP12 fP13 fP1f
    obtain ⟨wz, hwz⟩ : ∃ wq, wq = ((((w2.setCell ⟨(w.heap.size + 1), 0, none⟩ (.int .u64 (limb (r) 0 : Nat))).setCell ⟨(w.heap.size + 1), 1, none⟩ (.int .u64 (limb (r) 1 : Nat))).setCell ⟨(w.heap.size + 1), 2, none⟩ (.int .u64 (limb (r) 2 : Nat))).setCell ⟨(w.heap.size + 1), 3, none⟩ (.int .u64 (limb (r) 3 : Nat))) := ⟨_, rfl⟩
    rw [← hwz]
    have hwy : wz = putL (w.heap.size + 1) 0 (numL r) w2 := hwz
    have HZ : OwnC wz (w.heap.size + 1) (numL r) ∧ Below w.heap.size w wz := by
      rw [hwy]
      exact ⟨OwnC.put (numL r) P1_2.out rfl, below_putL (Nat.le_succ_of_le (Nat.le_refl _)) (numL r) 0 _ W_2.out⟩
    clear hwz hwy
    obtain ⟨hO, HB⟩ := HZ
    obtain ⟨rz, r0, r1, r2, r3, rf⟩ := hO.num
    refine bodyPost_ret (v := .agg #[.int .u64 (limb (r) 0 : Nat), .int .u64 (limb (r) 1 : Nat), .int .u64 (limb (r) 2 : Nat), .int .u64 (limb (r) 3 : Nat)]) ?_ rfl ⟨rfl, HB⟩
    simp [results, Tryd.results7, go_sem, r0, r1, r2, r3]
end Go.Proofs.YtgmfecncfekjfabDoor
