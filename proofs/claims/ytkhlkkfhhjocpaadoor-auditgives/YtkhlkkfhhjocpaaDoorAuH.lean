/- The statement AuditGives' walk. -/
import Derived.Test.YtkhlkkfhhjocpaaDoorAuG
namespace Go.Proofs.YtkhlkkfhhjocpaaDoor
open Go Go.RowKit Go.Lib
def wdV (a : Nat) : List Value := [.int .u64 (limb a 0 : Nat), .int .u64 (limb a 1 : Nat), .int .u64 (limb a 2 : Nat), .int .u64 (limb a 3 : Nat), .int .u64 0, .int .u64 0, .int .u64 0, .int .u64 0]
def seV (d e f x : Nat) : List Value := [.int .u64 (limb d 0 : Nat), .int .u64 (limb d 1 : Nat), .int .u64 (limb d 2 : Nat), .int .u64 (limb d 3 : Nat), .int .u64 (limb e 0 : Nat), .int .u64 (limb e 1 : Nat), .int .u64 (limb e 2 : Nat), .int .u64 (limb e 3 : Nat), .int .u64 (limb f 0 : Nat), .int .u64 (limb f 1 : Nat), .int .u64 (limb f 2 : Nat), .int .u64 (limb f 3 : Nat), .int .u64 (limb x 0 : Nat), .int .u64 (limb x 1 : Nat), .int .u64 (limb x 2 : Nat), .int .u64 (limb x 3 : Nat)]
def tG (f wt z : Nat) : Td := ⟨0, 0, 0, false, 0, 0, false, f, wt, 3, z⟩
theorem wide_K (a : Nat) (ha : a < R256) (w : World) : Calls Tryd.prog 25 #[.agg fvV.toArray, .agg (wdV a).toArray] w fun e w' => e = .returned (.agg (nuV (a % QQ)).toArray) ∧ Below w.heap.size w w' := by
  have h := reduce2_any QQ a FM_Q FS_Q (Nat.lt_of_lt_of_le ha (by decide)) w
  have z : ∀ k, 4 ≤ k → limb a k = 0 := fun k hk => by
    unfold limb
    rw [Nat.div_eq_of_lt, Nat.zero_mod]
    refine Nat.lt_of_lt_of_le ha ?_
    rw [R256_pow4]
    exact Nat.pow_le_pow_right M64_pos hk
  rw [z 4 (by omega), z 5 (by omega), z 6 (by omega), z 7 (by omega)] at h
  exact h
set_option maxRecDepth 100000 in
set_option maxHeartbeats 400000 in
theorem in28_any (a : Nat) (ha : a < R256) (w : World) : Calls Tryd.prog 11 #[.agg (nuV a).toArray] w fun e w' => e = .returned (.agg (nuV (a % QQ)).toArray) ∧ Below w.heap.size w w' := by
  have KS : Hid (∀ w, Calls Tryd.prog 9 #[] w fun e w' => e = .returned (.agg fvV.toArray) ∧ Below w.heap.size w w') := fun w => scalars2_any w
  have KR : Hid _ := wide_K a ha
  obtain ⟨N, hN⟩ : ∃ N, N = w.heap.size := ⟨_, rfl⟩
  obtain ⟨W0, hW0⟩ : ∃ W, W = (w.alloc (.cells (nuV a).toArray 24)).alloc (.cells #[.int .u64 0, .int .u64 0, .int .u64 0, .int .u64 0] 24) := ⟨_, rfl⟩
  have H0 : Hid (Below w.heap.size w W0 ∧ Bk w.heap.size W0 N (nuV a) 24 ∧ Bk w.heap.size W0 (N + 1) [.int .u64 0, .int .u64 0, .int .u64 0, .int .u64 0] 24) := by
    have hb : Below w.heap.size w W0 := by
      rw [hW0]
      exact below_alloc0 (below_alloc0 (Below.refl _ _) _) _
    have e0 := Bk.mk0 (w) (nuV a) 24
    have a0 : Below (w).heap.size (w) (w.alloc (.cells (nuV a).toArray 24)) := below_alloc0 (Below.refl _ _) _
    have e1 := Bk.mk0 (w.alloc (.cells (nuV a).toArray 24)) [.int .u64 0, .int .u64 0, .int .u64 0, .int .u64 0] 24
    have a1 : Below (w.alloc (.cells (nuV a).toArray 24)).heap.size (w.alloc (.cells (nuV a).toArray 24)) ((w.alloc (.cells (nuV a).toArray 24)).alloc (.cells #[.int .u64 0, .int .u64 0, .int .u64 0, .int .u64 0] 24)) := below_alloc0 (Below.refl _ _) _
    simp only [World.size_alloc] at e1
    refine ⟨hb, ⟨?_, ?_⟩, ⟨?_, ?_⟩⟩
    · exact Nat.le_of_eq hN.symm
    · rw [hW0, hN]
      exact (e0.call a1).2
    · rw [hN]
      omega
    · rw [hW0, hN]
      exact e1.2
  have HW : Hid (W0 = (w.alloc (.cells (nuV a).toArray 24)).alloc (.cells #[.int .u64 0, .int .u64 0, .int .u64 0, .int .u64 0] 24) ∧ N = w.heap.size) := ⟨hW0, hN⟩
  clear hW0 hN ha
  go_enter Tryd.func11, Tryd.ntmps11
  go_upto_region 1 with fail
  rw [← HW.out.1, ← HW.out.2]
  clear HW
  go_wp2_with fail
  refine (KS.out _).mono ?_
  rintro e w1 ⟨rfl, hb1⟩
  have H1 : Hid (Below w.heap.size w w1 ∧ Bk w.heap.size w1 N (nuV a) 24 ∧ Bk w.heap.size w1 (N + 1) [.int .u64 0, .int .u64 0, .int .u64 0, .int .u64 0] 24) := ⟨below_call0 H0.out.1 hb1, H0.out.2.1.call hb1, H0.out.2.2.call hb1⟩
  clear hb1 H0
  obtain ⟨W2, A2, hA, hS, hb, hB⟩ := Bk.fresh H1.out.1 (Nat.le_refl _) #[.int .u64 0, .int .u64 0, .int .u64 0, .int .u64 0, .int .u64 0, .int .u64 0, .int .u64 0, .int .u64 0] (fvV) 45 (by kernel_rfl) rfl (by kernel_rfl)
  have HA : Hid (A2 = w1.heap.size) := hA
  have HS : Hid _ := hS
  have HB : Hid (Below w1.heap.size w1 W2 ∧ Bk w.heap.size W2 A2 (fvV) 45) := ⟨hb, hB⟩
  clear hA hS hb hB
  go_upto_region 2 with (first | ((rw [← HA.out]); ((with_reducible refine store_tk (b := A2) (k := 0) (x := 3) (y := 4) ?_ ?_ ?_ ?_ HS.out ?_); rfl; rfl; rfl; rfl)) | ((with_reducible refine store_tk (b := A2) (k := 0) (x := 3) (y := 4) ?_ ?_ ?_ ?_ HS.out ?_); rfl; rfl; rfl; rfl))
  have H2 : Hid (Below w.heap.size w W2 ∧ Bk w.heap.size W2 N (nuV a) 24 ∧ Bk w.heap.size W2 (N + 1) [.int .u64 0, .int .u64 0, .int .u64 0, .int .u64 0] 24 ∧ Bk w.heap.size W2 A2 (fvV) 45) := ⟨below_call0 H1.out.1 HB.out.1, H1.out.2.1.call HB.out.1, H1.out.2.2.call HB.out.1, HB.out.2⟩
  clear HA HS HB H1
  have L1 : Hid ((loadVar 45 ⟨A2, 0, none⟩).run Tryd.prog W2 = .ok (.agg (fvV).toArray) W2) := H2.out.2.2.2.load 0 (fvV) (by rfl) Tryd.underlying45 rfl (by kernel_rfl)
  have q2 : W2.cell? ⟨N, 0, none⟩ = some (.int .u64 (limb a 0 : Nat)) := H2.out.2.1.cell 0 _ rfl
  have q3 : W2.cell? ⟨N, 1, none⟩ = some (.int .u64 (limb a 1 : Nat)) := H2.out.2.1.cell 1 _ rfl
  have q4 : W2.cell? ⟨N, 2, none⟩ = some (.int .u64 (limb a 2 : Nat)) := H2.out.2.1.cell 2 _ rfl
  have q5 : W2.cell? ⟨N, 3, none⟩ = some (.int .u64 (limb a 3 : Nat)) := H2.out.2.1.cell 3 _ rfl
  have Q6 : Hid (∀ w, (Instr.build 63 #[(0, .int .u64 (limb a 0 : Nat)), (1, .int .u64 (limb a 1 : Nat)), (2, .int .u64 (limb a 2 : Nat)), (3, .int .u64 (limb a 3 : Nat))]).run Tryd.prog w = .ok (.agg (wdV a).toArray) w) := fun _ => by kernel_rfl
  go_wp2_with (first | ((with_reducible refine load_tk (b := A2) (k := 0) (x := 3) ?_ ?_ ?_ L1.out ?_); rfl; rfl; rfl) | ((with_reducible refine build_tk (ty := 63) (parts := #[(0, .tmp 7), (1, .tmp 9), (2, .tmp 11), (3, .tmp 13)]) (ps := #[(0, .int .u64 (limb a 0 : Nat)), (1, .int .u64 (limb a 1 : Nat)), (2, .int .u64 (limb a 2 : Nat)), (3, .int .u64 (limb a 3 : Nat))]) (vs := (wdV a).toArray) ?_ ?_ ?_ (Q6.out _) ?_); rfl; rfl; (simp only [List.map_toArray, List.map_cons, List.map_nil]; rfl)))
  refine (KR.out _).mono ?_
  rintro e w3 ⟨rfl, hb3⟩
  have H3 : Hid (Below w.heap.size w w3 ∧ Bk w.heap.size w3 N (nuV a) 24 ∧ Bk w.heap.size w3 (N + 1) [.int .u64 0, .int .u64 0, .int .u64 0, .int .u64 0] 24 ∧ Bk w.heap.size w3 A2 (fvV) 45) := ⟨below_call0 H2.out.1 hb3, H2.out.2.1.call hb3, H2.out.2.2.1.call hb3, H2.out.2.2.2.call hb3⟩
  clear hb3 L1 q2 q3 q4 q5 Q6 H2
  obtain ⟨W4, hS, hb, hB⟩ := H3.out.2.2.1.put H3.out.1 (nuV (a % QQ)) (by kernel_rfl) rfl (by kernel_rfl)
  have HS : Hid _ := hS
  have HB : Hid (Below w.heap.size w W4 ∧ Bk w.heap.size W4 (N + 1) (nuV (a % QQ)) 24) := ⟨hb, hB⟩
  clear hS hb hB
  go_wp2_with ((with_reducible refine store_tk (b := (N + 1)) (k := 0) (x := 2) (y := 15) ?_ ?_ ?_ ?_ HS.out ?_); rfl; rfl; rfl; rfl)
  have H4 : Hid (Below w.heap.size w W4 ∧ Bk w.heap.size W4 (N + 1) (nuV (a % QQ)) 24) := ⟨HB.out.1, HB.out.2⟩
  clear HS HB H3
  have hld0 : (loadVar 24 ⟨(N + 1), 0, none⟩).run Tryd.prog W4 = .ok (.agg (nuV (a % QQ)).toArray) W4 := H4.out.2.load 0 (nuV (a % QQ)) (by rfl) Tryd.underlying24 rfl (by kernel_rfl)
  refine bodyPost_ret (v := .agg (nuV (a % QQ)).toArray) ?_ rfl ⟨rfl, H4.out.1⟩
  simp [results, Tryd.results11, Act.put, asAddr, hld0]
theorem add_mod_cancelK (q u v b : Nat) (hu : u < q) (hv : v < q) (h : (u + b) % q = (v + b) % q) : u = v := by
  have hq : 0 < q := by omega
  have ht : (b + (q - b % q)) % q = 0 := by
    have e := Nat.div_add_mod b q
    have l := Nat.mod_lt b hq
    have e' : b + (q - b % q) = q * (b / q) + q := by omega
    rw [e', Nat.add_mod_right, Nat.mul_mod_right]
  have k : ∀ a, a < q → ((a + b) % q + (q - b % q)) % q = a := fun a ha => by
    rw [Nat.mod_add_mod, Nat.add_assoc, Nat.add_mod, ht, Nat.add_zero, Nat.mod_mod, Nat.mod_eq_of_lt ha]
  rw [← k u hu, h, k v hv]
theorem dz_dcK (q x k c1 c2 : Nat) (hq : 0 < q) (h1 : c1 < q) (h2 : c2 < q) : subM q ((k + c1 * x % q) % q) ((k + c2 * x % q) % q) = subM q c1 c2 * x % q := by
  have l1 := Nat.mod_lt (k + c1 * x % q) hq
  have l2 := Nat.mod_lt (k + c2 * x % q) hq
  refine add_mod_cancelK q _ _ ((k + c2 * x % q) % q) (Nat.mod_lt _ hq) (Nat.mod_lt _ hq) ?_
  rw [sub_add_mod q _ _ l1 l2]
  have e := sub_add_mod q c1 c2 h1 h2
  have e2 : (subM q c1 c2 * x % q + (k + c2 * x % q) % q) % q = (k + (subM q c1 c2 + c2) % q * x % q) % q := by
    rw [Nat.mod_add_mod, Nat.add_mod_mod, ← Nat.add_assoc, Nat.add_mod_mod, Nat.mod_mul_mod, Nat.add_mod_mod, Nat.add_mul, Nat.add_comm (subM q c1 c2 * x) k, Nat.add_assoc]
  rw [e2, e]
theorem inj_mul (d x y : Nat) (hd : d < QQ) (h0 : d ≠ 0) (hx : x < QQ) (hy : y < QQ) (h : d * x % QQ = d * y % QQ) : x = y := by
  rw [← tell_xK x d hx hd h0, h, tell_xK y d hy hd h0]
theorem tG_ok (f wt z : Nat) (h1 : f < QQ) (h2 : wt < QQ) (h3 : z < QQ) : (tG f wt z).ok = true := by
  unfold Td.ok
  rw [decide_eq_true (show (tG f wt z).f < QQ from h1), decide_eq_true (show (tG f wt z).w < QQ from h2), decide_eq_true (show (tG f wt z).c < QQ from ltQ_smallK 3 (by decide)), decide_eq_true (show (tG f wt z).z < QQ from h3)]
  rfl
theorem tG_no (f w1 z1 w2 z2 : Nat) : eqNo (tG f w1 z1) (tG f w2 z2) = true := by
  have e : eqPr (tG f w1 z1) (tG f w2 z2) = true := by kernel_rfl
  unfold eqNo
  rw [e]
  exact eqn_self f
/-- Two shares of one nonce: what Leak tells of them. -/
theorem gives (f a b x k : Nat) (hf : f < QQ) (ha : a < QQ) (hb : b < QQ) (hx : x < QQ) (z1 z2 : Nat) (h1 : z1 = (k + a * 3 % QQ * x % QQ) % QQ) (h2 : z2 = (k + b * 3 % QQ * x % QQ) % QQ) :
    (a = b → lkE (tG f a z1) (tG f b z2) = 1 ∧ lkN (tG f a z1) (tG f b z2) = 0) ∧ (a ≠ b → lkE (tG f a z1) (tG f b z2) = 0 ∧ lkN (tG f a z1) (tG f b z2) = x) := by
  have q1 : z1 < QQ := by rw [h1]; exact Nat.mod_lt _ QQ_posK
  have q2 : z2 < QQ := by rw [h2]; exact Nat.mod_lt _ QQ_posK
  have t1 : tmN (tG f a z1) = a * 3 % QQ := rfl
  have t2 : tmN (tG f b z2) = b * 3 % QQ := rfl
  constructor
  · intro e
    exact lk_1 (tG_ok f a z1 hf ha q1) (tG_ok f b z2 hf hb q2) (by rw [t1, t2, e, decide_eq_true rfl, Bool.or_true])
  · intro e
    have hne : tmN (tG f a z1) ≠ tmN (tG f b z2) := fun g => e (inj_mul 3 a b (ltQ_smallK 3 (by decide)) (by decide) ha hb (by rw [Nat.mul_comm 3 a, Nat.mul_comm 3 b]; exact g))
    have h := lk_0 (tG_ok f a z1 hf ha q1) (tG_ok f b z2 hf hb q2) (tG_no f a z1 b z2) hne
    refine ⟨h.1, h.2.trans (tell_gen x _ _ hx (subM_ltK _ _ _ QQ_posK) (sub_ne (tmN_lt _) (tmN_lt _) hne) ?_)⟩
    show subM QQ z1 z2 = subM QQ (a * 3 % QQ) (b * 3 % QQ) * x % QQ
    rw [h1, h2]
    exact dz_dcK QQ x k (a * 3 % QQ) (b * 3 % QQ) QQ_posK (Nat.mod_lt _ QQ_posK) (Nat.mod_lt _ QQ_posK)
set_option maxRecDepth 100000 in
set_option maxHeartbeats 400000 in
theorem gives_any (d ee f x a b : Nat) (hd : d < R256) (hee : ee < R256) (hf : f < R256) (hx : x < R256) (ha : a < R256) (hb : b < R256) (w : World) (hG : GlobQ w) : Calls Tryd.prog 4 #[.agg (seV d ee f x).toArray, .agg (nuV a).toArray, .agg (nuV b).toArray] w fun e w' => e = .returned (.bool true) ∧ Below w.heap.size w w' := by
  obtain ⟨u, hu⟩ : ∃ v, v = (f % QQ) * (ee % QQ) % QQ := ⟨_, rfl⟩
  obtain ⟨kk, hkk⟩ : ∃ v, v = (d % QQ + u) % QQ := ⟨_, rfl⟩
  obtain ⟨pw, hpw⟩ : ∃ v, v = (a % QQ) * 3 % QQ := ⟨_, rfl⟩
  obtain ⟨px, hpx⟩ : ∃ v, v = pw * (x % QQ) % QQ := ⟨_, rfl⟩
  obtain ⟨zp, hzp⟩ : ∃ v, v = (kk + px) % QQ := ⟨_, rfl⟩
  obtain ⟨qw, hqw⟩ : ∃ v, v = (b % QQ) * 3 % QQ := ⟨_, rfl⟩
  obtain ⟨qx, hqx⟩ : ∃ v, v = qw * (x % QQ) % QQ := ⟨_, rfl⟩
  obtain ⟨zq, hzq⟩ : ∃ v, v = (kk + qx) % QQ := ⟨_, rfl⟩
  obtain ⟨D, hD⟩ : ∃ v, v = decide (a % QQ = b % QQ) := ⟨_, rfl⟩
  obtain ⟨E, hE⟩ : ∃ v, v = (cond D 1 0 : Int) := ⟨_, rfl⟩
  obtain ⟨r, hr⟩ : ∃ v, v = cond D 0 (x % QQ) := ⟨_, rfl⟩
  have ml : ∀ n, n % QQ < QQ := fun n => Nat.mod_lt n QQ_posK
  have qu : u < QQ := by rw [hu]; exact ml _
  have qkk : kk < QQ := by rw [hkk]; exact ml _
  have qpw : pw < QQ := by rw [hpw]; exact ml _
  have qpx : px < QQ := by rw [hpx]; exact ml _
  have qzp : zp < QQ := by rw [hzp]; exact ml _
  have qqw : qw < QQ := by rw [hqw]; exact ml _
  have qqx : qx < QQ := by rw [hqx]; exact ml _
  have qzq : zq < QQ := by rw [hzq]; exact ml _
  have KS : Hid (∀ w, Calls Tryd.prog 9 #[] w fun e w' => e = .returned (.agg fvV.toArray) ∧ Below w.heap.size w w') := fun w => scalars2_any w
  have KId : Hid (∀ w, Calls Tryd.prog 11 #[.agg (nuV d).toArray] w fun e w' => e = .returned (.agg (nuV (d % QQ)).toArray) ∧ Below w.heap.size w w') := fun w => in28_any d hd w
  have KIee : Hid (∀ w, Calls Tryd.prog 11 #[.agg (nuV ee).toArray] w fun e w' => e = .returned (.agg (nuV (ee % QQ)).toArray) ∧ Below w.heap.size w w') := fun w => in28_any ee hee w
  have KIf : Hid (∀ w, Calls Tryd.prog 11 #[.agg (nuV f).toArray] w fun e w' => e = .returned (.agg (nuV (f % QQ)).toArray) ∧ Below w.heap.size w w') := fun w => in28_any f hf w
  have KIx : Hid (∀ w, Calls Tryd.prog 11 #[.agg (nuV x).toArray] w fun e w' => e = .returned (.agg (nuV (x % QQ)).toArray) ∧ Below w.heap.size w w') := fun w => in28_any x hx w
  have KIa : Hid (∀ w, Calls Tryd.prog 11 #[.agg (nuV a).toArray] w fun e w' => e = .returned (.agg (nuV (a % QQ)).toArray) ∧ Below w.heap.size w w') := fun w => in28_any a ha w
  have KIb : Hid (∀ w, Calls Tryd.prog 11 #[.agg (nuV b).toArray] w fun e w' => e = .returned (.agg (nuV (b % QQ)).toArray) ∧ Below w.heap.size w w') := fun w => in28_any b hb w
  have KFE : Hid (∀ w, Calls Tryd.prog 12 #[.agg fvV.toArray, .agg (nuV (f % QQ)).toArray, .agg (nuV (ee % QQ)).toArray] w fun e w' => e = .returned (.agg (nuV u).toArray) ∧ Below w.heap.size w w') := fun w => by
    rw [hu]
    exact mul2_any QQ (f % QQ) (ee % QQ) FM_Q FS_Q (QQ_RK (ml f)) (QQ_RK (ml ee)) w
  have KDD : Hid (∀ w, Calls Tryd.prog 10 #[.agg fvV.toArray, .agg (nuV (d % QQ)).toArray, .agg (nuV u).toArray] w fun e w' => e = .returned (.agg (nuV kk).toArray) ∧ Below w.heap.size w w') := fun w => by
    rw [hkk]
    exact add2_any QQ (d % QQ) u FM_Q.2.1 (ml d) (qu) w
  have KPW : Hid (∀ w, Calls Tryd.prog 12 #[.agg fvV.toArray, .agg (nuV (a % QQ)).toArray, .agg (nuV 3).toArray] w fun e w' => e = .returned (.agg (nuV pw).toArray) ∧ Below w.heap.size w w') := fun w => by
    rw [hpw]
    exact mul2_any QQ (a % QQ) 3 FM_Q FS_Q (QQ_RK (ml a)) (QQ_RK (ltQ_smallK 3 (by decide))) w
  have KPX : Hid (∀ w, Calls Tryd.prog 12 #[.agg fvV.toArray, .agg (nuV pw).toArray, .agg (nuV (x % QQ)).toArray] w fun e w' => e = .returned (.agg (nuV px).toArray) ∧ Below w.heap.size w w') := fun w => by
    rw [hpx]
    exact mul2_any QQ pw (x % QQ) FM_Q FS_Q (QQ_RK (qpw)) (QQ_RK (ml x)) w
  have KPZ : Hid (∀ w, Calls Tryd.prog 10 #[.agg fvV.toArray, .agg (nuV kk).toArray, .agg (nuV px).toArray] w fun e w' => e = .returned (.agg (nuV zp).toArray) ∧ Below w.heap.size w w') := fun w => by
    rw [hzp]
    exact add2_any QQ kk px FM_Q.2.1 (qkk) (qpx) w
  have KQW : Hid (∀ w, Calls Tryd.prog 12 #[.agg fvV.toArray, .agg (nuV (b % QQ)).toArray, .agg (nuV 3).toArray] w fun e w' => e = .returned (.agg (nuV qw).toArray) ∧ Below w.heap.size w w') := fun w => by
    rw [hqw]
    exact mul2_any QQ (b % QQ) 3 FM_Q FS_Q (QQ_RK (ml b)) (QQ_RK (ltQ_smallK 3 (by decide))) w
  have KQX : Hid (∀ w, Calls Tryd.prog 12 #[.agg fvV.toArray, .agg (nuV qw).toArray, .agg (nuV (x % QQ)).toArray] w fun e w' => e = .returned (.agg (nuV qx).toArray) ∧ Below w.heap.size w w') := fun w => by
    rw [hqx]
    exact mul2_any QQ qw (x % QQ) FM_Q FS_Q (QQ_RK (qqw)) (QQ_RK (ml x)) w
  have KQZ : Hid (∀ w, Calls Tryd.prog 10 #[.agg fvV.toArray, .agg (nuV kk).toArray, .agg (nuV qx).toArray] w fun e w' => e = .returned (.agg (nuV zq).toArray) ∧ Below w.heap.size w w') := fun w => by
    rw [hzq]
    exact add2_any QQ kk qx FM_Q.2.1 (qkk) (qqx) w
  have z1 : zp = (kk + (a % QQ) * 3 % QQ * (x % QQ) % QQ) % QQ := by rw [hzp, hpx, hpw]
  have z2 : zq = (kk + (b % QQ) * 3 % QQ * (x % QQ) % QQ) % QQ := by rw [hzq, hqx, hqw]
  have g1 := gives (f % QQ) (a % QQ) (b % QQ) (x % QQ) kk (ml f) (ml a) (ml b) (ml x) zp zq z1 z2
  have g2 := gives (f % QQ) (b % QQ) (a % QQ) (x % QQ) kk (ml f) (ml b) (ml a) (ml x) zq zp z2 z1
  have tR : ∀ n z, n < QQ → z < QQ → (tG (f % QQ) n z).R := fun n z h1 h2 => ⟨QQ_RK (ml f), QQ_RK h1, QQ_RK (ltQ_smallK 3 (by decide)), QQ_RK h2⟩
  have KL1 : Hid (∀ w, GlobQ w → Calls Tryd.prog 5 #[.agg (tdV (tG (f % QQ) (a % QQ) zp)).toArray, .agg (tdV (tG (f % QQ) (b % QQ) zq)).toArray] w fun e w' => e = .returned (.tuple #[.agg (nuV r).toArray, .int .i64 E]) ∧ Below w.heap.size w w') := fun w h => by
    refine leak_any _ _ r E (tR _ _ (ml a) qzp) (tR _ _ (ml b) qzq) ?_ ?_ w h
    · rw [hE, hD]
      by_cases c : a % QQ = b % QQ
      · rw [(g1.1 c).1, decide_eq_true c]; rfl
      · rw [(g1.2 c).1, decide_eq_false c]; rfl
    · rw [hr, hD]
      by_cases c : a % QQ = b % QQ
      · rw [(g1.1 c).2, decide_eq_true c]; rfl
      · rw [(g1.2 c).2, decide_eq_false c]; rfl
  have KL2 : Hid (∀ w, GlobQ w → Calls Tryd.prog 5 #[.agg (tdV (tG (f % QQ) (b % QQ) zq)).toArray, .agg (tdV (tG (f % QQ) (a % QQ) zp)).toArray] w fun e w' => e = .returned (.tuple #[.agg (nuV r).toArray, .int .i64 E]) ∧ Below w.heap.size w w') := fun w h => by
    refine leak_any _ _ r E (tR _ _ (ml b) qzq) (tR _ _ (ml a) qzp) ?_ ?_ w h
    · rw [hE, hD]
      by_cases c : a % QQ = b % QQ
      · rw [(g2.1 c.symm).1, decide_eq_true c]; rfl
      · rw [(g2.2 (Ne.symm c)).1, decide_eq_false c]; rfl
    · rw [hr, hD]
      by_cases c : a % QQ = b % QQ
      · rw [(g2.1 c.symm).2, decide_eq_true c]; rfl
      · rw [(g2.2 (Ne.symm c)).2, decide_eq_false c]; rfl
  have K2 : Hid _ := two_ok
  have HD : Hid (∀ w : World, (Op.equalIn 10000 24 (.agg (nuV (a % QQ)).toArray) (.agg (nuV (b % QQ)).toArray)).run Tryd.prog w = .ok D w) := fun w => by
    rw [run_num0, eqn_iff (QQ_RK (ml a)) (QQ_RK (ml b)), hD]
  have HE : Hid (E = cond D 1 0 ∧ r = cond D 0 (x % QQ)) := ⟨hE, hr⟩
  have HG : Hid (GlobQ w) := hG
  clear g1 g2 z1 z2 tR ml hu hkk hpw hpx hzp hqw hqx hzq hD hE hr qu qkk qpw qpx qzp qqw qqx qzq hd hee hf hx ha hb
  obtain ⟨N, hN⟩ : ∃ N, N = w.heap.size := ⟨_, rfl⟩
  obtain ⟨W0, hW0⟩ : ∃ W, W = ((w.alloc (.cells (seV d ee f x).toArray 43)).alloc (.cells (nuV a).toArray 24)).alloc (.cells (nuV b).toArray 24) := ⟨_, rfl⟩
  have H0 : Hid (Below w.heap.size w W0 ∧ Bk w.heap.size W0 N (seV d ee f x) 43 ∧ Bk w.heap.size W0 (N + 1) (nuV a) 24 ∧ Bk w.heap.size W0 (N + 1 + 1) (nuV b) 24 ∧ GlobQ W0) := by
    have hb : Below w.heap.size w W0 := by
      rw [hW0]
      exact below_alloc0 (below_alloc0 (below_alloc0 (Below.refl _ _) _) _) _
    have e0 := Bk.mk0 (w) (seV d ee f x) 43
    have a0 : Below (w).heap.size (w) (w.alloc (.cells (seV d ee f x).toArray 43)) := below_alloc0 (Below.refl _ _) _
    have e1 := Bk.mk0 (w.alloc (.cells (seV d ee f x).toArray 43)) (nuV a) 24
    have a1 : Below (w.alloc (.cells (seV d ee f x).toArray 43)).heap.size (w.alloc (.cells (seV d ee f x).toArray 43)) ((w.alloc (.cells (seV d ee f x).toArray 43)).alloc (.cells (nuV a).toArray 24)) := below_alloc0 (Below.refl _ _) _
    simp only [World.size_alloc] at e1
    have e2 := Bk.mk0 ((w.alloc (.cells (seV d ee f x).toArray 43)).alloc (.cells (nuV a).toArray 24)) (nuV b) 24
    have a2 : Below ((w.alloc (.cells (seV d ee f x).toArray 43)).alloc (.cells (nuV a).toArray 24)).heap.size ((w.alloc (.cells (seV d ee f x).toArray 43)).alloc (.cells (nuV a).toArray 24)) (((w.alloc (.cells (seV d ee f x).toArray 43)).alloc (.cells (nuV a).toArray 24)).alloc (.cells (nuV b).toArray 24)) := below_alloc0 (Below.refl _ _) _
    simp only [World.size_alloc] at e2
    refine ⟨hb, ⟨?_, ?_⟩, ⟨?_, ?_⟩, ⟨?_, ?_⟩, hG.call hb⟩
    · exact Nat.le_of_eq hN.symm
    · rw [hW0, hN]
      exact ((e0.call a1).call a2).2
    · rw [hN]
      omega
    · rw [hW0, hN]
      exact (e1.call a2).2
    · rw [hN]
      omega
    · rw [hW0, hN]
      exact e2.2
  have HW : Hid (W0 = ((w.alloc (.cells (seV d ee f x).toArray 43)).alloc (.cells (nuV a).toArray 24)).alloc (.cells (nuV b).toArray 24) ∧ N = w.heap.size) := ⟨hW0, hN⟩
  clear hW0 hN hG
  go_enter Tryd.func4, Tryd.ntmps4
  go_upto_region 1 with fail
  rw [← HW.out.1, ← HW.out.2]
  clear HW
  go_wp2_with fail
  refine (KS.out _).mono ?_
  rintro e w1 ⟨rfl, hb1⟩
  have H1 : Hid (Below w.heap.size w w1 ∧ Bk w.heap.size w1 N (seV d ee f x) 43 ∧ Bk w.heap.size w1 (N + 1) (nuV a) 24 ∧ Bk w.heap.size w1 (N + 1 + 1) (nuV b) 24 ∧ GlobQ w1) := ⟨below_call0 H0.out.1 hb1, H0.out.2.1.call hb1, H0.out.2.2.1.call hb1, H0.out.2.2.2.1.call hb1, H0.out.2.2.2.2.call hb1⟩
  clear hb1 H0
  obtain ⟨W2, A2, hA, hS, hb, hB⟩ := Bk.fresh H1.out.1 (Nat.le_refl _) #[.int .u64 0, .int .u64 0, .int .u64 0, .int .u64 0, .int .u64 0, .int .u64 0, .int .u64 0, .int .u64 0] (fvV) 45 (by kernel_rfl) rfl (by kernel_rfl)
  have HA : Hid (A2 = w1.heap.size) := hA
  have HS : Hid _ := hS
  have HB : Hid (Below w1.heap.size w1 W2 ∧ Bk w.heap.size W2 A2 (fvV) 45) := ⟨hb, hB⟩
  clear hA hS hb hB
  go_upto_region 2 with (first | ((rw [← HA.out]); ((with_reducible refine store_tk (b := A2) (k := 0) (x := 7) (y := 15) ?_ ?_ ?_ ?_ HS.out ?_); rfl; rfl; rfl; rfl)) | ((with_reducible refine store_tk (b := A2) (k := 0) (x := 7) (y := 15) ?_ ?_ ?_ ?_ HS.out ?_); rfl; rfl; rfl; rfl))
  have H2 : Hid (Below w.heap.size w W2 ∧ Bk w.heap.size W2 N (seV d ee f x) 43 ∧ Bk w.heap.size W2 (N + 1) (nuV a) 24 ∧ Bk w.heap.size W2 (N + 1 + 1) (nuV b) 24 ∧ GlobQ W2 ∧ Bk w.heap.size W2 A2 (fvV) 45) := ⟨below_call0 H1.out.1 HB.out.1, H1.out.2.1.call HB.out.1, H1.out.2.2.1.call HB.out.1, H1.out.2.2.2.1.call HB.out.1, H1.out.2.2.2.2.call HB.out.1, HB.out.2⟩
  clear HA HS HB H1
  refine wp_region_P 14 0 (OwL [isV (.agg (fvV).toArray), isV (.pointer (some ⟨N, 0, none⟩)), isV (.agg (nuV d).toArray), isV (.agg (nuV (d % QQ)).toArray), isV (.agg (fvV).toArray), isV (.pointer (some ⟨N, 8, none⟩)), isV (.agg (nuV f).toArray), isV (.agg (nuV (f % QQ)).toArray), isV (.pointer (some ⟨N, 4, none⟩)), isV (.agg (nuV ee).toArray), isV (.agg (nuV (ee % QQ)).toArray), isV (.agg (nuV u).toArray), isV (.agg (nuV kk).toArray), isB (W2.heap.size) [.int .u64 0, .int .u64 0, .int .u64 0, .int .u64 0] [.int .u64 0, .int .u64 0, .int .u64 0, .int .u64 0] 24] false) [some 16, some 17, some 18, some 19, some 20, some 21, some 22, some 23, some 24, some 25, some 26, some 27, some 28, some 8] [0, 1, 2, 3, 4, 5, 6, 7, 8, 9, 10, 11, 12, 13] ?Ag2_11 (by kernel_rfl) (by kernel_rfl) (by kernel_rfl) (by decide) ?hAg2_11 (OwL.call (pers_cons (pers_V _) (pers_cons (pers_V _) (pers_cons (pers_V _) (pers_cons (pers_V _) (pers_cons (pers_V _) (pers_cons (pers_V _) (pers_cons (pers_V _) (pers_cons (pers_V _) (pers_cons (pers_V _) (pers_cons (pers_V _) (pers_cons (pers_V _) (pers_cons (pers_V _) (pers_cons (pers_V _) (pers_cons (pers_B _ _ _ _) (pers_nil))))))))))))))) false) ?hopg2_11 ?hfing2_11
  case hAg2_11 =>
    intro v
    simp only [List.map_cons, List.map_nil, List.zip_cons_cons, List.zip_nil_right, fillD, Act.put, List.setIfInBounds_toArray, List.set_cons_zero, List.set_cons_succ]
    exact rfl
  case hopg2_11 =>
    refine ⟨?_, ?_, ?_, ?_, ?_, ?_, ?_, ?_, ?_, ?_, ?_, ?_, ?_, ?_, fun h => absurd h (by decide), trivial⟩
    focus (intro _ v wx hS hd; exact OpTo.does rfl (exec_loadK (b := A2) (k := 0) (x := 7) rfl (rfl) ((H2.out.2.2.2.2.2.call hS).load 0 (fvV) (by rfl) Tryd.underlying45 rfl (by kernel_rfl))) rfl (Below.refl _ _))
    focus (intro _ v wx hS hd; refine OpTo.does rfl ?_ rfl (Below.refl _ _); clear hd hS; go_simp; try with_reducible rfl)
    focus (intro _ v wx hS hd; exact OpTo.does rfl (exec_loadK (b := N) (k := 0) (x := 17) rfl (hd 1 (by kernel_rfl)) ((H2.out.2.1.call hS).load 0 (nuV d) (by rfl) Tryd.underlying24 rfl (by kernel_rfl))) rfl (Below.refl _ _))
    focus (intro _ v wx hS hd; refine OpTo.asks rfl (fun _ => rfl) (fun K hK => ?_); have d2 : v 2 = .agg (nuV d).toArray := hd 2 (by kernel_rfl); simp only [d2] at hK ⊢; go_simp; refine (KId.out _).mono ?_; rintro e w' ⟨rfl, hq⟩; exact hK _ w' (rfl) hq)
    focus (intro _ v wx hS hd; exact OpTo.does rfl (exec_loadK (b := A2) (k := 0) (x := 7) rfl (rfl) ((H2.out.2.2.2.2.2.call hS).load 0 (fvV) (by rfl) Tryd.underlying45 rfl (by kernel_rfl))) rfl (Below.refl _ _))
    focus (intro _ v wx hS hd; refine OpTo.does rfl ?_ rfl (Below.refl _ _); clear hd hS; go_simp; try with_reducible rfl)
    focus (intro _ v wx hS hd; exact OpTo.does rfl (exec_loadK (b := N) (k := 8) (x := 21) rfl (hd 5 (by kernel_rfl)) ((H2.out.2.1.call hS).load 8 (nuV f) (by rfl) Tryd.underlying24 rfl (by kernel_rfl))) rfl (Below.refl _ _))
    focus (intro _ v wx hS hd; refine OpTo.asks rfl (fun _ => rfl) (fun K hK => ?_); have d6 : v 6 = .agg (nuV f).toArray := hd 6 (by kernel_rfl); simp only [d6] at hK ⊢; go_simp; refine (KIf.out _).mono ?_; rintro e w' ⟨rfl, hq⟩; exact hK _ w' (rfl) hq)
    focus (intro _ v wx hS hd; refine OpTo.does rfl ?_ rfl (Below.refl _ _); clear hd hS; go_simp; try with_reducible rfl)
    focus (intro _ v wx hS hd; exact OpTo.does rfl (exec_loadK (b := N) (k := 4) (x := 24) rfl (hd 8 (by kernel_rfl)) ((H2.out.2.1.call hS).load 4 (nuV ee) (by rfl) Tryd.underlying24 rfl (by kernel_rfl))) rfl (Below.refl _ _))
    focus (intro _ v wx hS hd; refine OpTo.asks rfl (fun _ => rfl) (fun K hK => ?_); have d9 : v 9 = .agg (nuV ee).toArray := hd 9 (by kernel_rfl); simp only [d9] at hK ⊢; go_simp; refine (KIee.out _).mono ?_; rintro e w' ⟨rfl, hq⟩; exact hK _ w' (rfl) hq)
    focus (intro _ v wx hS hd; refine OpTo.asks rfl (fun _ => rfl) (fun K hK => ?_); have d4 : v 4 = .agg (fvV).toArray := hd 4 (by kernel_rfl); have d7 : v 7 = .agg (nuV (f % QQ)).toArray := hd 7 (by kernel_rfl); have d10 : v 10 = .agg (nuV (ee % QQ)).toArray := hd 10 (by kernel_rfl); simp only [d4, d7, d10] at hK ⊢; go_simp; refine (KFE.out _).mono ?_; rintro e w' ⟨rfl, hq⟩; exact hK _ w' (rfl) hq)
    focus (intro _ v wx hS hd; refine OpTo.asks rfl (fun _ => rfl) (fun K hK => ?_); have d0 : v 0 = .agg (fvV).toArray := hd 0 (by kernel_rfl); have d3 : v 3 = .agg (nuV (d % QQ)).toArray := hd 3 (by kernel_rfl); have d11 : v 11 = .agg (nuV u).toArray := hd 11 (by kernel_rfl); simp only [d0, d3, d11] at hK ⊢; go_simp; refine (KDD.out _).mono ?_; rintro e w' ⟨rfl, hq⟩; exact hK _ w' (rfl) hq)
    focus (intro _ v wx hS hd; refine OpTo.does (y := .pointer (some ⟨wx.heap.size, 0, none⟩)) (w1 := wx.alloc (.cells ([.int .u64 0, .int .u64 0, .int .u64 0, .int .u64 0] : List Value).toArray 24)) rfl ?_ ⟨_, rfl, hS.size, heap_alloc_last wx _⟩ (below_alloc0 (Below.refl _ _) _); (focus (go_simp; try rfl)))
  intro v w3 hS hd
  have d12 : v 12 = .agg (nuV kk).toArray := hd 12 (by decide)
  obtain ⟨A3, e0, hz, hB⟩ := hd 13 (by decide)
  simp only [d12, e0]
  obtain ⟨W4, hW2⟩ : ∃ W, W = w3.setRow A3 (nuV kk).toArray := ⟨_, rfl⟩
  have hT : (storeVar 24 ⟨A3, 0, none⟩ (.agg (nuV kk).toArray)).run Tryd.prog w3 = .ok () W4 := by
    rw [hW2]
    exact run_storeVar_row w3 A3 24 24 _ (nuV kk).toArray hB (by kernel_rfl) rfl (by kernel_rfl)
  have hb2 : Below W2.heap.size W2 W4 := by
    rw [hW2]
    exact below_setRowK hz _ hS
  have hB2 : Bk w.heap.size W4 A3 (nuV kk) 24 := ⟨Nat.le_trans H2.out.1.size hz, by
    rw [hW2]
    exact setRow_heap _ _ _ _ _ _ hB⟩
  clear hW2
  refine tail_at (o := ?ozg2_11) ?hizg2_11 ?hwzg2_11 ?_
  case hizg2_11 => rw [List.getElem?_toArray]; exact rfl
  case hwzg2_11 => exact rfl
  refine act_storeK (b := A3) (k := 0) (x := 8) (y := 28) rfl rfl rfl hT ?_
  try simp only [Act.put]
  refine tail_end ?_
  have H3 : Hid (Below w.heap.size w W4 ∧ Bk w.heap.size W4 N (seV d ee f x) 43 ∧ Bk w.heap.size W4 (N + 1) (nuV a) 24 ∧ Bk w.heap.size W4 (N + 1 + 1) (nuV b) 24 ∧ GlobQ W4 ∧ Bk w.heap.size W4 A2 (fvV) 45 ∧ Bk w.heap.size W4 A3 (nuV kk) 24) := ⟨below_call0 H2.out.1 hb2, H2.out.2.1.call hb2, H2.out.2.2.1.call hb2, H2.out.2.2.2.1.call hb2, H2.out.2.2.2.2.1.call hb2, H2.out.2.2.2.2.2.call hb2, hB2⟩
  clear hS hd hT hb2 hB2 hz hB d12 e0 H2
  go_upto_region 3 with fail
  refine wp_region_P 8 0 (OwL [isV (.pointer (some ⟨N, 8, none⟩)), isV (.agg (nuV f).toArray), isV (.agg (nuV (f % QQ)).toArray), isV (.agg (nuV a).toArray), isV (.agg (nuV (a % QQ)).toArray), isV (.agg (nuV 3).toArray), isV (.agg (tdV (tG (f % QQ) (a % QQ) 0)).toArray), isB (W4.heap.size) [.int .i64 0, .int .u64 0, .int .u64 0, .int .u64 0, .int .u64 0, .int .u64 0, .int .u64 0, .int .u64 0, .int .u64 0, .bool false, .int .u64 0, .int .u64 0, .int .u64 0, .int .u64 0, .int .u64 0, .int .u64 0, .int .u64 0, .int .u64 0, .bool false, .int .u64 0, .int .u64 0, .int .u64 0, .int .u64 0, .int .u64 0, .int .u64 0, .int .u64 0, .int .u64 0, .int .u64 0, .int .u64 0, .int .u64 0, .int .u64 0, .int .u64 0, .int .u64 0, .int .u64 0, .int .u64 0] [.int .i64 0, .int .u64 0, .int .u64 0, .int .u64 0, .int .u64 0, .int .u64 0, .int .u64 0, .int .u64 0, .int .u64 0, .bool false, .int .u64 0, .int .u64 0, .int .u64 0, .int .u64 0, .int .u64 0, .int .u64 0, .int .u64 0, .int .u64 0, .bool false, .int .u64 0, .int .u64 0, .int .u64 0, .int .u64 0, .int .u64 0, .int .u64 0, .int .u64 0, .int .u64 0, .int .u64 0, .int .u64 0, .int .u64 0, .int .u64 0, .int .u64 0, .int .u64 0, .int .u64 0, .int .u64 0] 30] false) [some 29, some 30, some 31, some 32, some 33, some 34, some 35, some 9] [0, 1, 2, 3, 4, 5, 6, 7] ?Ag3_12 (by kernel_rfl) (by kernel_rfl) (by kernel_rfl) (by decide) ?hAg3_12 (OwL.call (pers_cons (pers_V _) (pers_cons (pers_V _) (pers_cons (pers_V _) (pers_cons (pers_V _) (pers_cons (pers_V _) (pers_cons (pers_V _) (pers_cons (pers_V _) (pers_cons (pers_B _ _ _ _) (pers_nil))))))))) false) ?hopg3_12 ?hfing3_12
  case hAg3_12 =>
    intro v
    simp only [List.map_cons, List.map_nil, List.zip_cons_cons, List.zip_nil_right, fillD, Act.put, List.setIfInBounds_toArray, List.set_cons_zero, List.set_cons_succ]
    exact rfl
  case hopg3_12 =>
    refine ⟨?_, ?_, ?_, ?_, ?_, ?_, ?_, ?_, fun h => absurd h (by decide), trivial⟩
    focus (intro _ v wx hS hd; refine OpTo.does rfl ?_ rfl (Below.refl _ _); clear hd hS; go_simp; try with_reducible rfl)
    focus (intro _ v wx hS hd; exact OpTo.does rfl (exec_loadK (b := N) (k := 8) (x := 29) rfl (hd 0 (by kernel_rfl)) ((H3.out.2.1.call hS).load 8 (nuV f) (by rfl) Tryd.underlying24 rfl (by kernel_rfl))) rfl (Below.refl _ _))
    focus (intro _ v wx hS hd; refine OpTo.asks rfl (fun _ => rfl) (fun K hK => ?_); have d1 : v 1 = .agg (nuV f).toArray := hd 1 (by kernel_rfl); simp only [d1] at hK ⊢; go_simp; refine (KIf.out _).mono ?_; rintro e w' ⟨rfl, hq⟩; exact hK _ w' (rfl) hq)
    focus (intro _ v wx hS hd; exact OpTo.does rfl (exec_loadK (b := (N + 1)) (k := 0) (x := 4) rfl (rfl) ((H3.out.2.2.1.call hS).load 0 (nuV a) (by rfl) Tryd.underlying24 rfl (by kernel_rfl))) rfl (Below.refl _ _))
    focus (intro _ v wx hS hd; refine OpTo.asks rfl (fun _ => rfl) (fun K hK => ?_); have d3 : v 3 = .agg (nuV a).toArray := hd 3 (by kernel_rfl); simp only [d3] at hK ⊢; go_simp; refine (KIa.out _).mono ?_; rintro e w' ⟨rfl, hq⟩; exact hK _ w' (rfl) hq)
    focus (intro _ v wx hS hd; refine OpTo.does rfl (exec_buildK (ty := 24) (parts := #[(0, .const (Value.int .u64 3))]) (ps := #[(0, .int .u64 3)]) rfl ?_ ?_) rfl (Below.refl _ _); (focus (simp only [List.map_toArray, List.map_cons, List.map_nil]; clear hd hS; rfl)); (focus (kernel_rfl)))
    focus (intro _ v wx hS hd; have d2 : v 2 = .agg (nuV (f % QQ)).toArray := hd 2 (by kernel_rfl); have d4 : v 4 = .agg (nuV (a % QQ)).toArray := hd 4 (by kernel_rfl); have d5 : v 5 = .agg (nuV 3).toArray := hd 5 (by kernel_rfl); refine OpTo.does rfl (exec_buildK (ty := 30) (parts := #[(1, .tmp 31), (2, .tmp 33), (3, .tmp 34)]) (ps := #[(1, .agg (nuV (f % QQ)).toArray), (2, .agg (nuV (a % QQ)).toArray), (3, .agg (nuV 3).toArray)]) rfl ?_ ?_) rfl (Below.refl _ _); (focus (simp only [List.map_toArray, List.map_cons, List.map_nil]; exact congrArg List.toArray (by simp only [d2, d4, d5]; rfl))); (focus (kernel_rfl)))
    focus (intro _ v wx hS hd; refine OpTo.does (y := .pointer (some ⟨wx.heap.size, 0, none⟩)) (w1 := wx.alloc (.cells ([.int .i64 0, .int .u64 0, .int .u64 0, .int .u64 0, .int .u64 0, .int .u64 0, .int .u64 0, .int .u64 0, .int .u64 0, .bool false, .int .u64 0, .int .u64 0, .int .u64 0, .int .u64 0, .int .u64 0, .int .u64 0, .int .u64 0, .int .u64 0, .bool false, .int .u64 0, .int .u64 0, .int .u64 0, .int .u64 0, .int .u64 0, .int .u64 0, .int .u64 0, .int .u64 0, .int .u64 0, .int .u64 0, .int .u64 0, .int .u64 0, .int .u64 0, .int .u64 0, .int .u64 0, .int .u64 0] : List Value).toArray 30)) rfl ?_ ⟨_, rfl, hS.size, heap_alloc_last wx _⟩ (below_alloc0 (Below.refl _ _) _); (focus (go_simp; try rfl)))
  intro v w5 hS hd
  have d6 : v 6 = .agg (tdV (tG (f % QQ) (a % QQ) 0)).toArray := hd 6 (by decide)
  obtain ⟨A5, e0, hz, hB⟩ := hd 7 (by decide)
  simp only [d6, e0]
  obtain ⟨W6, hW2⟩ : ∃ W, W = w5.setRow A5 (tdV (tG (f % QQ) (a % QQ) 0)).toArray := ⟨_, rfl⟩
  have hT : (storeVar 30 ⟨A5, 0, none⟩ (.agg (tdV (tG (f % QQ) (a % QQ) 0)).toArray)).run Tryd.prog w5 = .ok () W6 := by
    rw [hW2]
    exact run_storeVar_row w5 A5 30 30 _ (tdV (tG (f % QQ) (a % QQ) 0)).toArray hB (by kernel_rfl) rfl (by kernel_rfl)
  have hb2 : Below W4.heap.size W4 W6 := by
    rw [hW2]
    exact below_setRowK hz _ hS
  have hB2 : Bk w.heap.size W6 A5 (tdV (tG (f % QQ) (a % QQ) 0)) 30 := ⟨Nat.le_trans H3.out.1.size hz, by
    rw [hW2]
    exact setRow_heap _ _ _ _ _ _ hB⟩
  clear hW2
  refine tail_at (o := ?ozg3_12) ?hizg3_12 ?hwzg3_12 ?_
  case hizg3_12 => rw [List.getElem?_toArray]; exact rfl
  case hwzg3_12 => exact rfl
  refine act_storeK (b := A5) (k := 0) (x := 9) (y := 35) rfl rfl rfl hT ?_
  try simp only [Act.put]
  refine tail_end ?_
  have H4 : Hid (Below w.heap.size w W6 ∧ Bk w.heap.size W6 N (seV d ee f x) 43 ∧ Bk w.heap.size W6 (N + 1) (nuV a) 24 ∧ Bk w.heap.size W6 (N + 1 + 1) (nuV b) 24 ∧ GlobQ W6 ∧ Bk w.heap.size W6 A2 (fvV) 45 ∧ Bk w.heap.size W6 A3 (nuV kk) 24 ∧ Bk w.heap.size W6 A5 (tdV (tG (f % QQ) (a % QQ) 0)) 30 ∧ N < A5 ∧ (N + 1) < A5 ∧ (N + 1 + 1) < A5 ∧ A2 < A5 ∧ A3 < A5) := ⟨below_call0 H3.out.1 hb2, H3.out.2.1.call hb2, H3.out.2.2.1.call hb2, H3.out.2.2.2.1.call hb2, H3.out.2.2.2.2.1.call hb2, H3.out.2.2.2.2.2.1.call hb2, H3.out.2.2.2.2.2.2.call hb2, hB2, Nat.lt_of_lt_of_le H3.out.2.1.lt hz, Nat.lt_of_lt_of_le H3.out.2.2.1.lt hz, Nat.lt_of_lt_of_le H3.out.2.2.2.1.lt hz, Nat.lt_of_lt_of_le H3.out.2.2.2.2.2.1.lt hz, Nat.lt_of_lt_of_le H3.out.2.2.2.2.2.2.lt hz⟩
  clear hS hd hT hb2 hB2 hz hB d6 e0 H3
  go_upto_region 4 with fail
  refine wp_region_P 8 0 (OwL [isV (.pointer (some ⟨N, 8, none⟩)), isV (.agg (nuV f).toArray), isV (.agg (nuV (f % QQ)).toArray), isV (.agg (nuV b).toArray), isV (.agg (nuV (b % QQ)).toArray), isV (.agg (nuV 3).toArray), isV (.agg (tdV (tG (f % QQ) (b % QQ) 0)).toArray), isB (W6.heap.size) [.int .i64 0, .int .u64 0, .int .u64 0, .int .u64 0, .int .u64 0, .int .u64 0, .int .u64 0, .int .u64 0, .int .u64 0, .bool false, .int .u64 0, .int .u64 0, .int .u64 0, .int .u64 0, .int .u64 0, .int .u64 0, .int .u64 0, .int .u64 0, .bool false, .int .u64 0, .int .u64 0, .int .u64 0, .int .u64 0, .int .u64 0, .int .u64 0, .int .u64 0, .int .u64 0, .int .u64 0, .int .u64 0, .int .u64 0, .int .u64 0, .int .u64 0, .int .u64 0, .int .u64 0, .int .u64 0] [.int .i64 0, .int .u64 0, .int .u64 0, .int .u64 0, .int .u64 0, .int .u64 0, .int .u64 0, .int .u64 0, .int .u64 0, .bool false, .int .u64 0, .int .u64 0, .int .u64 0, .int .u64 0, .int .u64 0, .int .u64 0, .int .u64 0, .int .u64 0, .bool false, .int .u64 0, .int .u64 0, .int .u64 0, .int .u64 0, .int .u64 0, .int .u64 0, .int .u64 0, .int .u64 0, .int .u64 0, .int .u64 0, .int .u64 0, .int .u64 0, .int .u64 0, .int .u64 0, .int .u64 0, .int .u64 0] 30] false) [some 36, some 37, some 38, some 39, some 40, some 41, some 42, some 10] [0, 1, 2, 3, 4, 5, 6, 7] ?Ag4_13 (by kernel_rfl) (by kernel_rfl) (by kernel_rfl) (by decide) ?hAg4_13 (OwL.call (pers_cons (pers_V _) (pers_cons (pers_V _) (pers_cons (pers_V _) (pers_cons (pers_V _) (pers_cons (pers_V _) (pers_cons (pers_V _) (pers_cons (pers_V _) (pers_cons (pers_B _ _ _ _) (pers_nil))))))))) false) ?hopg4_13 ?hfing4_13
  case hAg4_13 =>
    intro v
    simp only [List.map_cons, List.map_nil, List.zip_cons_cons, List.zip_nil_right, fillD, Act.put, List.setIfInBounds_toArray, List.set_cons_zero, List.set_cons_succ]
    exact rfl
  case hopg4_13 =>
    refine ⟨?_, ?_, ?_, ?_, ?_, ?_, ?_, ?_, fun h => absurd h (by decide), trivial⟩
    focus (intro _ v wx hS hd; refine OpTo.does rfl ?_ rfl (Below.refl _ _); clear hd hS; go_simp; try with_reducible rfl)
    focus (intro _ v wx hS hd; exact OpTo.does rfl (exec_loadK (b := N) (k := 8) (x := 36) rfl (hd 0 (by kernel_rfl)) ((H4.out.2.1.call hS).load 8 (nuV f) (by rfl) Tryd.underlying24 rfl (by kernel_rfl))) rfl (Below.refl _ _))
    focus (intro _ v wx hS hd; refine OpTo.asks rfl (fun _ => rfl) (fun K hK => ?_); have d1 : v 1 = .agg (nuV f).toArray := hd 1 (by kernel_rfl); simp only [d1] at hK ⊢; go_simp; refine (KIf.out _).mono ?_; rintro e w' ⟨rfl, hq⟩; exact hK _ w' (rfl) hq)
    focus (intro _ v wx hS hd; exact OpTo.does rfl (exec_loadK (b := (N + 1 + 1)) (k := 0) (x := 5) rfl (rfl) ((H4.out.2.2.2.1.call hS).load 0 (nuV b) (by rfl) Tryd.underlying24 rfl (by kernel_rfl))) rfl (Below.refl _ _))
    focus (intro _ v wx hS hd; refine OpTo.asks rfl (fun _ => rfl) (fun K hK => ?_); have d3 : v 3 = .agg (nuV b).toArray := hd 3 (by kernel_rfl); simp only [d3] at hK ⊢; go_simp; refine (KIb.out _).mono ?_; rintro e w' ⟨rfl, hq⟩; exact hK _ w' (rfl) hq)
    focus (intro _ v wx hS hd; refine OpTo.does rfl (exec_buildK (ty := 24) (parts := #[(0, .const (Value.int .u64 3))]) (ps := #[(0, .int .u64 3)]) rfl ?_ ?_) rfl (Below.refl _ _); (focus (simp only [List.map_toArray, List.map_cons, List.map_nil]; clear hd hS; rfl)); (focus (kernel_rfl)))
    focus (intro _ v wx hS hd; have d2 : v 2 = .agg (nuV (f % QQ)).toArray := hd 2 (by kernel_rfl); have d4 : v 4 = .agg (nuV (b % QQ)).toArray := hd 4 (by kernel_rfl); have d5 : v 5 = .agg (nuV 3).toArray := hd 5 (by kernel_rfl); refine OpTo.does rfl (exec_buildK (ty := 30) (parts := #[(1, .tmp 38), (2, .tmp 40), (3, .tmp 41)]) (ps := #[(1, .agg (nuV (f % QQ)).toArray), (2, .agg (nuV (b % QQ)).toArray), (3, .agg (nuV 3).toArray)]) rfl ?_ ?_) rfl (Below.refl _ _); (focus (simp only [List.map_toArray, List.map_cons, List.map_nil]; exact congrArg List.toArray (by simp only [d2, d4, d5]; rfl))); (focus (kernel_rfl)))
    focus (intro _ v wx hS hd; refine OpTo.does (y := .pointer (some ⟨wx.heap.size, 0, none⟩)) (w1 := wx.alloc (.cells ([.int .i64 0, .int .u64 0, .int .u64 0, .int .u64 0, .int .u64 0, .int .u64 0, .int .u64 0, .int .u64 0, .int .u64 0, .bool false, .int .u64 0, .int .u64 0, .int .u64 0, .int .u64 0, .int .u64 0, .int .u64 0, .int .u64 0, .int .u64 0, .bool false, .int .u64 0, .int .u64 0, .int .u64 0, .int .u64 0, .int .u64 0, .int .u64 0, .int .u64 0, .int .u64 0, .int .u64 0, .int .u64 0, .int .u64 0, .int .u64 0, .int .u64 0, .int .u64 0, .int .u64 0, .int .u64 0] : List Value).toArray 30)) rfl ?_ ⟨_, rfl, hS.size, heap_alloc_last wx _⟩ (below_alloc0 (Below.refl _ _) _); (focus (go_simp; try rfl)))
  intro v w7 hS hd
  have d6 : v 6 = .agg (tdV (tG (f % QQ) (b % QQ) 0)).toArray := hd 6 (by decide)
  obtain ⟨A7, e0, hz, hB⟩ := hd 7 (by decide)
  simp only [d6, e0]
  obtain ⟨W8, hW2⟩ : ∃ W, W = w7.setRow A7 (tdV (tG (f % QQ) (b % QQ) 0)).toArray := ⟨_, rfl⟩
  have hT : (storeVar 30 ⟨A7, 0, none⟩ (.agg (tdV (tG (f % QQ) (b % QQ) 0)).toArray)).run Tryd.prog w7 = .ok () W8 := by
    rw [hW2]
    exact run_storeVar_row w7 A7 30 30 _ (tdV (tG (f % QQ) (b % QQ) 0)).toArray hB (by kernel_rfl) rfl (by kernel_rfl)
  have hb2 : Below W6.heap.size W6 W8 := by
    rw [hW2]
    exact below_setRowK hz _ hS
  have hB2 : Bk w.heap.size W8 A7 (tdV (tG (f % QQ) (b % QQ) 0)) 30 := ⟨Nat.le_trans H4.out.1.size hz, by
    rw [hW2]
    exact setRow_heap _ _ _ _ _ _ hB⟩
  clear hW2
  refine tail_at (o := ?ozg4_13) ?hizg4_13 ?hwzg4_13 ?_
  case hizg4_13 => rw [List.getElem?_toArray]; exact rfl
  case hwzg4_13 => exact rfl
  refine act_storeK (b := A7) (k := 0) (x := 10) (y := 42) rfl rfl rfl hT ?_
  try simp only [Act.put]
  refine tail_end ?_
  have H5 : Hid (Below w.heap.size w W8 ∧ Bk w.heap.size W8 N (seV d ee f x) 43 ∧ Bk w.heap.size W8 (N + 1) (nuV a) 24 ∧ Bk w.heap.size W8 (N + 1 + 1) (nuV b) 24 ∧ GlobQ W8 ∧ Bk w.heap.size W8 A2 (fvV) 45 ∧ Bk w.heap.size W8 A3 (nuV kk) 24 ∧ Bk w.heap.size W8 A5 (tdV (tG (f % QQ) (a % QQ) 0)) 30 ∧ N < A5 ∧ (N + 1) < A5 ∧ (N + 1 + 1) < A5 ∧ A2 < A5 ∧ A3 < A5 ∧ Bk w.heap.size W8 A7 (tdV (tG (f % QQ) (b % QQ) 0)) 30 ∧ N < A7 ∧ (N + 1) < A7 ∧ (N + 1 + 1) < A7 ∧ A2 < A7 ∧ A3 < A7 ∧ A5 < A7) := ⟨below_call0 H4.out.1 hb2, H4.out.2.1.call hb2, H4.out.2.2.1.call hb2, H4.out.2.2.2.1.call hb2, H4.out.2.2.2.2.1.call hb2, H4.out.2.2.2.2.2.1.call hb2, H4.out.2.2.2.2.2.2.1.call hb2, H4.out.2.2.2.2.2.2.2.1.call hb2, H4.out.2.2.2.2.2.2.2.2.1, H4.out.2.2.2.2.2.2.2.2.2.1, H4.out.2.2.2.2.2.2.2.2.2.2.1, H4.out.2.2.2.2.2.2.2.2.2.2.2.1, H4.out.2.2.2.2.2.2.2.2.2.2.2.2, hB2, Nat.lt_of_lt_of_le H4.out.2.1.lt hz, Nat.lt_of_lt_of_le H4.out.2.2.1.lt hz, Nat.lt_of_lt_of_le H4.out.2.2.2.1.lt hz, Nat.lt_of_lt_of_le H4.out.2.2.2.2.2.1.lt hz, Nat.lt_of_lt_of_le H4.out.2.2.2.2.2.2.1.lt hz, Nat.lt_of_lt_of_le H4.out.2.2.2.2.2.2.2.1.lt hz⟩
  clear hS hd hT hb2 hB2 hz hB d6 e0 H4
  go_upto_region 5 with fail
  refine wp_region_P 15 0 (OwL [isV (.agg (fvV).toArray), isV (.agg (nuV kk).toArray), isV (.agg (fvV).toArray), isV (.agg (fvV).toArray), isV (.pointer (some ⟨A5, 23, none⟩)), isV (.agg (nuV (a % QQ)).toArray), isV (.pointer (some ⟨A5, 27, none⟩)), isV (.agg (nuV 3).toArray), isV (.agg (nuV pw).toArray), isV (.pointer (some ⟨N, 12, none⟩)), isV (.agg (nuV x).toArray), isV (.agg (nuV (x % QQ)).toArray), isV (.agg (nuV px).toArray), isV (.agg (nuV zp).toArray), isV (.pointer (some ⟨A5, 31, none⟩))] false) [some 43, some 44, some 45, some 46, some 47, some 48, some 49, some 50, some 51, some 52, some 53, some 54, some 55, some 56, some 57] [0, 1, 2, 3, 4, 5, 6, 7, 8, 9, 10, 11, 12, 13, 14] ?Ag5_14 (by kernel_rfl) (by kernel_rfl) (by kernel_rfl) (by decide) ?hAg5_14 (OwL.call (pers_cons (pers_V _) (pers_cons (pers_V _) (pers_cons (pers_V _) (pers_cons (pers_V _) (pers_cons (pers_V _) (pers_cons (pers_V _) (pers_cons (pers_V _) (pers_cons (pers_V _) (pers_cons (pers_V _) (pers_cons (pers_V _) (pers_cons (pers_V _) (pers_cons (pers_V _) (pers_cons (pers_V _) (pers_cons (pers_V _) (pers_cons (pers_V _) (pers_nil)))))))))))))))) false) ?hopg5_14 ?hfing5_14
  case hAg5_14 =>
    intro v
    simp only [List.map_cons, List.map_nil, List.zip_cons_cons, List.zip_nil_right, fillD, Act.put, List.setIfInBounds_toArray, List.set_cons_zero, List.set_cons_succ]
    exact rfl
  case hopg5_14 =>
    refine ⟨?_, ?_, ?_, ?_, ?_, ?_, ?_, ?_, ?_, ?_, ?_, ?_, ?_, ?_, ?_, fun h => absurd h (by decide), trivial⟩
    focus (intro _ v wx hS hd; exact OpTo.does rfl (exec_loadK (b := A2) (k := 0) (x := 7) rfl (rfl) ((H5.out.2.2.2.2.2.1.call hS).load 0 (fvV) (by rfl) Tryd.underlying45 rfl (by kernel_rfl))) rfl (Below.refl _ _))
    focus (intro _ v wx hS hd; exact OpTo.does rfl (exec_loadK (b := A3) (k := 0) (x := 8) rfl (rfl) ((H5.out.2.2.2.2.2.2.1.call hS).load 0 (nuV kk) (by rfl) Tryd.underlying24 rfl (by kernel_rfl))) rfl (Below.refl _ _))
    focus (intro _ v wx hS hd; exact OpTo.does rfl (exec_loadK (b := A2) (k := 0) (x := 7) rfl (rfl) ((H5.out.2.2.2.2.2.1.call hS).load 0 (fvV) (by rfl) Tryd.underlying45 rfl (by kernel_rfl))) rfl (Below.refl _ _))
    focus (intro _ v wx hS hd; exact OpTo.does rfl (exec_loadK (b := A2) (k := 0) (x := 7) rfl (rfl) ((H5.out.2.2.2.2.2.1.call hS).load 0 (fvV) (by rfl) Tryd.underlying45 rfl (by kernel_rfl))) rfl (Below.refl _ _))
    focus (intro _ v wx hS hd; refine OpTo.does rfl ?_ rfl (Below.refl _ _); clear hd hS; go_simp; try with_reducible rfl)
    focus (intro _ v wx hS hd; exact OpTo.does rfl (exec_loadK (b := A5) (k := 23) (x := 47) rfl (hd 4 (by kernel_rfl)) ((H5.out.2.2.2.2.2.2.2.1.call hS).load 23 (nuV (a % QQ)) (by rfl) Tryd.underlying24 rfl (by kernel_rfl))) rfl (Below.refl _ _))
    focus (intro _ v wx hS hd; refine OpTo.does rfl ?_ rfl (Below.refl _ _); clear hd hS; go_simp; try with_reducible rfl)
    focus (intro _ v wx hS hd; exact OpTo.does rfl (exec_loadK (b := A5) (k := 27) (x := 49) rfl (hd 6 (by kernel_rfl)) ((H5.out.2.2.2.2.2.2.2.1.call hS).load 27 (nuV 3) (by rfl) Tryd.underlying24 rfl (by kernel_rfl))) rfl (Below.refl _ _))
    focus (intro _ v wx hS hd; refine OpTo.asks rfl (fun _ => rfl) (fun K hK => ?_); have d3 : v 3 = .agg (fvV).toArray := hd 3 (by kernel_rfl); have d5 : v 5 = .agg (nuV (a % QQ)).toArray := hd 5 (by kernel_rfl); have d7 : v 7 = .agg (nuV 3).toArray := hd 7 (by kernel_rfl); simp only [d3, d5, d7] at hK ⊢; go_simp; refine (KPW.out _).mono ?_; rintro e w' ⟨rfl, hq⟩; exact hK _ w' (rfl) hq)
    focus (intro _ v wx hS hd; refine OpTo.does rfl ?_ rfl (Below.refl _ _); clear hd hS; go_simp; try with_reducible rfl)
    focus (intro _ v wx hS hd; exact OpTo.does rfl (exec_loadK (b := N) (k := 12) (x := 52) rfl (hd 9 (by kernel_rfl)) ((H5.out.2.1.call hS).load 12 (nuV x) (by rfl) Tryd.underlying24 rfl (by kernel_rfl))) rfl (Below.refl _ _))
    focus (intro _ v wx hS hd; refine OpTo.asks rfl (fun _ => rfl) (fun K hK => ?_); have d10 : v 10 = .agg (nuV x).toArray := hd 10 (by kernel_rfl); simp only [d10] at hK ⊢; go_simp; refine (KIx.out _).mono ?_; rintro e w' ⟨rfl, hq⟩; exact hK _ w' (rfl) hq)
    focus (intro _ v wx hS hd; refine OpTo.asks rfl (fun _ => rfl) (fun K hK => ?_); have d2 : v 2 = .agg (fvV).toArray := hd 2 (by kernel_rfl); have d8 : v 8 = .agg (nuV pw).toArray := hd 8 (by kernel_rfl); have d11 : v 11 = .agg (nuV (x % QQ)).toArray := hd 11 (by kernel_rfl); simp only [d2, d8, d11] at hK ⊢; go_simp; refine (KPX.out _).mono ?_; rintro e w' ⟨rfl, hq⟩; exact hK _ w' (rfl) hq)
    focus (intro _ v wx hS hd; refine OpTo.asks rfl (fun _ => rfl) (fun K hK => ?_); have d0 : v 0 = .agg (fvV).toArray := hd 0 (by kernel_rfl); have d1 : v 1 = .agg (nuV kk).toArray := hd 1 (by kernel_rfl); have d12 : v 12 = .agg (nuV px).toArray := hd 12 (by kernel_rfl); simp only [d0, d1, d12] at hK ⊢; go_simp; refine (KPZ.out _).mono ?_; rintro e w' ⟨rfl, hq⟩; exact hK _ w' (rfl) hq)
    focus (intro _ v wx hS hd; refine OpTo.does rfl ?_ rfl (Below.refl _ _); clear hd hS; go_simp; try with_reducible rfl)
  intro v w9 hS hd
  have d13 : v 13 = .agg (nuV zp).toArray := hd 13 (by decide)
  have d14 : v 14 = .pointer (some ⟨A5, 31, none⟩) := hd 14 (by decide)
  simp only [d13, d14]
  obtain ⟨W10, hT, hb2, hB2, hO⟩ := Bk.putAt (ty := 24) (H5.out.2.2.2.2.2.2.2.1.call hS) (below_call0 H5.out.1 hS) 31 (nuV zp) (tdV (tG (f % QQ) (a % QQ) zp)) (Nat.le_of_ble_eq_true (by kernel_rfl)) (by kernel_rfl) (by kernel_rfl) rfl
  refine tail_at (o := ?ozg5_14) ?hizg5_14 ?hwzg5_14 ?_
  case hizg5_14 => rw [List.getElem?_toArray]; exact rfl
  case hwzg5_14 => exact rfl
  refine act_storeK (b := A5) (k := 31) (x := 57) (y := 56) rfl rfl rfl hT ?_
  try simp only [Act.put]
  refine tail_end ?_
  have H6 : Hid (Below w.heap.size w W10 ∧ Bk w.heap.size W10 N (seV d ee f x) 43 ∧ Bk w.heap.size W10 (N + 1) (nuV a) 24 ∧ Bk w.heap.size W10 (N + 1 + 1) (nuV b) 24 ∧ GlobQ W10 ∧ Bk w.heap.size W10 A2 (fvV) 45 ∧ Bk w.heap.size W10 A3 (nuV kk) 24 ∧ Bk w.heap.size W10 A5 (tdV (tG (f % QQ) (a % QQ) zp)) 30 ∧ N < A5 ∧ (N + 1) < A5 ∧ (N + 1 + 1) < A5 ∧ A2 < A5 ∧ A3 < A5 ∧ Bk w.heap.size W10 A7 (tdV (tG (f % QQ) (b % QQ) 0)) 30 ∧ N < A7 ∧ (N + 1) < A7 ∧ (N + 1 + 1) < A7 ∧ A2 < A7 ∧ A3 < A7 ∧ A5 < A7) := ⟨hb2, Bk.beside (H5.out.2.1.call hS) (Nat.ne_of_lt H5.out.2.2.2.2.2.2.2.2.1) hO, Bk.beside (H5.out.2.2.1.call hS) (Nat.ne_of_lt H5.out.2.2.2.2.2.2.2.2.2.1) hO, Bk.beside (H5.out.2.2.2.1.call hS) (Nat.ne_of_lt H5.out.2.2.2.2.2.2.2.2.2.2.1) hO, HG.out.call hb2, Bk.beside (H5.out.2.2.2.2.2.1.call hS) (Nat.ne_of_lt H5.out.2.2.2.2.2.2.2.2.2.2.2.1) hO, Bk.beside (H5.out.2.2.2.2.2.2.1.call hS) (Nat.ne_of_lt H5.out.2.2.2.2.2.2.2.2.2.2.2.2.1) hO, hB2, H5.out.2.2.2.2.2.2.2.2.1, H5.out.2.2.2.2.2.2.2.2.2.1, H5.out.2.2.2.2.2.2.2.2.2.2.1, H5.out.2.2.2.2.2.2.2.2.2.2.2.1, H5.out.2.2.2.2.2.2.2.2.2.2.2.2.1, Bk.beside (H5.out.2.2.2.2.2.2.2.2.2.2.2.2.2.1.call hS) (Nat.ne_of_gt H5.out.2.2.2.2.2.2.2.2.2.2.2.2.2.2.2.2.2.2.2) hO, H5.out.2.2.2.2.2.2.2.2.2.2.2.2.2.2.1, H5.out.2.2.2.2.2.2.2.2.2.2.2.2.2.2.2.1, H5.out.2.2.2.2.2.2.2.2.2.2.2.2.2.2.2.2.1, H5.out.2.2.2.2.2.2.2.2.2.2.2.2.2.2.2.2.2.1, H5.out.2.2.2.2.2.2.2.2.2.2.2.2.2.2.2.2.2.2.1, H5.out.2.2.2.2.2.2.2.2.2.2.2.2.2.2.2.2.2.2.2⟩
  clear hS hd hT hb2 hB2 hO d13 d14 H5
  go_upto_region 6 with fail
  refine wp_region_P 15 0 (OwL [isV (.agg (fvV).toArray), isV (.agg (nuV kk).toArray), isV (.agg (fvV).toArray), isV (.agg (fvV).toArray), isV (.pointer (some ⟨A7, 23, none⟩)), isV (.agg (nuV (b % QQ)).toArray), isV (.pointer (some ⟨A7, 27, none⟩)), isV (.agg (nuV 3).toArray), isV (.agg (nuV qw).toArray), isV (.pointer (some ⟨N, 12, none⟩)), isV (.agg (nuV x).toArray), isV (.agg (nuV (x % QQ)).toArray), isV (.agg (nuV qx).toArray), isV (.agg (nuV zq).toArray), isV (.pointer (some ⟨A7, 31, none⟩))] false) [some 58, some 59, some 60, some 61, some 62, some 63, some 64, some 65, some 66, some 67, some 68, some 69, some 70, some 71, some 72] [0, 1, 2, 3, 4, 5, 6, 7, 8, 9, 10, 11, 12, 13, 14] ?Ag6_15 (by kernel_rfl) (by kernel_rfl) (by kernel_rfl) (by decide) ?hAg6_15 (OwL.call (pers_cons (pers_V _) (pers_cons (pers_V _) (pers_cons (pers_V _) (pers_cons (pers_V _) (pers_cons (pers_V _) (pers_cons (pers_V _) (pers_cons (pers_V _) (pers_cons (pers_V _) (pers_cons (pers_V _) (pers_cons (pers_V _) (pers_cons (pers_V _) (pers_cons (pers_V _) (pers_cons (pers_V _) (pers_cons (pers_V _) (pers_cons (pers_V _) (pers_nil)))))))))))))))) false) ?hopg6_15 ?hfing6_15
  case hAg6_15 =>
    intro v
    simp only [List.map_cons, List.map_nil, List.zip_cons_cons, List.zip_nil_right, fillD, Act.put, List.setIfInBounds_toArray, List.set_cons_zero, List.set_cons_succ]
    exact rfl
  case hopg6_15 =>
    refine ⟨?_, ?_, ?_, ?_, ?_, ?_, ?_, ?_, ?_, ?_, ?_, ?_, ?_, ?_, ?_, fun h => absurd h (by decide), trivial⟩
    focus (intro _ v wx hS hd; exact OpTo.does rfl (exec_loadK (b := A2) (k := 0) (x := 7) rfl (rfl) ((H6.out.2.2.2.2.2.1.call hS).load 0 (fvV) (by rfl) Tryd.underlying45 rfl (by kernel_rfl))) rfl (Below.refl _ _))
    focus (intro _ v wx hS hd; exact OpTo.does rfl (exec_loadK (b := A3) (k := 0) (x := 8) rfl (rfl) ((H6.out.2.2.2.2.2.2.1.call hS).load 0 (nuV kk) (by rfl) Tryd.underlying24 rfl (by kernel_rfl))) rfl (Below.refl _ _))
    focus (intro _ v wx hS hd; exact OpTo.does rfl (exec_loadK (b := A2) (k := 0) (x := 7) rfl (rfl) ((H6.out.2.2.2.2.2.1.call hS).load 0 (fvV) (by rfl) Tryd.underlying45 rfl (by kernel_rfl))) rfl (Below.refl _ _))
    focus (intro _ v wx hS hd; exact OpTo.does rfl (exec_loadK (b := A2) (k := 0) (x := 7) rfl (rfl) ((H6.out.2.2.2.2.2.1.call hS).load 0 (fvV) (by rfl) Tryd.underlying45 rfl (by kernel_rfl))) rfl (Below.refl _ _))
    focus (intro _ v wx hS hd; refine OpTo.does rfl ?_ rfl (Below.refl _ _); clear hd hS; go_simp; try with_reducible rfl)
    focus (intro _ v wx hS hd; exact OpTo.does rfl (exec_loadK (b := A7) (k := 23) (x := 62) rfl (hd 4 (by kernel_rfl)) ((H6.out.2.2.2.2.2.2.2.2.2.2.2.2.2.1.call hS).load 23 (nuV (b % QQ)) (by rfl) Tryd.underlying24 rfl (by kernel_rfl))) rfl (Below.refl _ _))
    focus (intro _ v wx hS hd; refine OpTo.does rfl ?_ rfl (Below.refl _ _); clear hd hS; go_simp; try with_reducible rfl)
    focus (intro _ v wx hS hd; exact OpTo.does rfl (exec_loadK (b := A7) (k := 27) (x := 64) rfl (hd 6 (by kernel_rfl)) ((H6.out.2.2.2.2.2.2.2.2.2.2.2.2.2.1.call hS).load 27 (nuV 3) (by rfl) Tryd.underlying24 rfl (by kernel_rfl))) rfl (Below.refl _ _))
    focus (intro _ v wx hS hd; refine OpTo.asks rfl (fun _ => rfl) (fun K hK => ?_); have d3 : v 3 = .agg (fvV).toArray := hd 3 (by kernel_rfl); have d5 : v 5 = .agg (nuV (b % QQ)).toArray := hd 5 (by kernel_rfl); have d7 : v 7 = .agg (nuV 3).toArray := hd 7 (by kernel_rfl); simp only [d3, d5, d7] at hK ⊢; go_simp; refine (KQW.out _).mono ?_; rintro e w' ⟨rfl, hq⟩; exact hK _ w' (rfl) hq)
    focus (intro _ v wx hS hd; refine OpTo.does rfl ?_ rfl (Below.refl _ _); clear hd hS; go_simp; try with_reducible rfl)
    focus (intro _ v wx hS hd; exact OpTo.does rfl (exec_loadK (b := N) (k := 12) (x := 67) rfl (hd 9 (by kernel_rfl)) ((H6.out.2.1.call hS).load 12 (nuV x) (by rfl) Tryd.underlying24 rfl (by kernel_rfl))) rfl (Below.refl _ _))
    focus (intro _ v wx hS hd; refine OpTo.asks rfl (fun _ => rfl) (fun K hK => ?_); have d10 : v 10 = .agg (nuV x).toArray := hd 10 (by kernel_rfl); simp only [d10] at hK ⊢; go_simp; refine (KIx.out _).mono ?_; rintro e w' ⟨rfl, hq⟩; exact hK _ w' (rfl) hq)
    focus (intro _ v wx hS hd; refine OpTo.asks rfl (fun _ => rfl) (fun K hK => ?_); have d2 : v 2 = .agg (fvV).toArray := hd 2 (by kernel_rfl); have d8 : v 8 = .agg (nuV qw).toArray := hd 8 (by kernel_rfl); have d11 : v 11 = .agg (nuV (x % QQ)).toArray := hd 11 (by kernel_rfl); simp only [d2, d8, d11] at hK ⊢; go_simp; refine (KQX.out _).mono ?_; rintro e w' ⟨rfl, hq⟩; exact hK _ w' (rfl) hq)
    focus (intro _ v wx hS hd; refine OpTo.asks rfl (fun _ => rfl) (fun K hK => ?_); have d0 : v 0 = .agg (fvV).toArray := hd 0 (by kernel_rfl); have d1 : v 1 = .agg (nuV kk).toArray := hd 1 (by kernel_rfl); have d12 : v 12 = .agg (nuV qx).toArray := hd 12 (by kernel_rfl); simp only [d0, d1, d12] at hK ⊢; go_simp; refine (KQZ.out _).mono ?_; rintro e w' ⟨rfl, hq⟩; exact hK _ w' (rfl) hq)
    focus (intro _ v wx hS hd; refine OpTo.does rfl ?_ rfl (Below.refl _ _); clear hd hS; go_simp; try with_reducible rfl)
  intro v w11 hS hd
  have d13 : v 13 = .agg (nuV zq).toArray := hd 13 (by decide)
  have d14 : v 14 = .pointer (some ⟨A7, 31, none⟩) := hd 14 (by decide)
  simp only [d13, d14]
  obtain ⟨W12, hT, hb2, hB2, hO⟩ := Bk.putAt (ty := 24) (H6.out.2.2.2.2.2.2.2.2.2.2.2.2.2.1.call hS) (below_call0 H6.out.1 hS) 31 (nuV zq) (tdV (tG (f % QQ) (b % QQ) zq)) (Nat.le_of_ble_eq_true (by kernel_rfl)) (by kernel_rfl) (by kernel_rfl) rfl
  refine tail_at (o := ?ozg6_15) ?hizg6_15 ?hwzg6_15 ?_
  case hizg6_15 => rw [List.getElem?_toArray]; exact rfl
  case hwzg6_15 => exact rfl
  refine act_storeK (b := A7) (k := 31) (x := 72) (y := 71) rfl rfl rfl hT ?_
  try simp only [Act.put]
  refine tail_end ?_
  have H7 : Hid (Below w.heap.size w W12 ∧ Bk w.heap.size W12 N (seV d ee f x) 43 ∧ Bk w.heap.size W12 (N + 1) (nuV a) 24 ∧ Bk w.heap.size W12 (N + 1 + 1) (nuV b) 24 ∧ GlobQ W12 ∧ Bk w.heap.size W12 A2 (fvV) 45 ∧ Bk w.heap.size W12 A3 (nuV kk) 24 ∧ Bk w.heap.size W12 A5 (tdV (tG (f % QQ) (a % QQ) zp)) 30 ∧ N < A5 ∧ (N + 1) < A5 ∧ (N + 1 + 1) < A5 ∧ A2 < A5 ∧ A3 < A5 ∧ Bk w.heap.size W12 A7 (tdV (tG (f % QQ) (b % QQ) zq)) 30 ∧ N < A7 ∧ (N + 1) < A7 ∧ (N + 1 + 1) < A7 ∧ A2 < A7 ∧ A3 < A7 ∧ A5 < A7) := ⟨hb2, Bk.beside (H6.out.2.1.call hS) (Nat.ne_of_lt H6.out.2.2.2.2.2.2.2.2.2.2.2.2.2.2.1) hO, Bk.beside (H6.out.2.2.1.call hS) (Nat.ne_of_lt H6.out.2.2.2.2.2.2.2.2.2.2.2.2.2.2.2.1) hO, Bk.beside (H6.out.2.2.2.1.call hS) (Nat.ne_of_lt H6.out.2.2.2.2.2.2.2.2.2.2.2.2.2.2.2.2.1) hO, HG.out.call hb2, Bk.beside (H6.out.2.2.2.2.2.1.call hS) (Nat.ne_of_lt H6.out.2.2.2.2.2.2.2.2.2.2.2.2.2.2.2.2.2.1) hO, Bk.beside (H6.out.2.2.2.2.2.2.1.call hS) (Nat.ne_of_lt H6.out.2.2.2.2.2.2.2.2.2.2.2.2.2.2.2.2.2.2.1) hO, Bk.beside (H6.out.2.2.2.2.2.2.2.1.call hS) (Nat.ne_of_lt H6.out.2.2.2.2.2.2.2.2.2.2.2.2.2.2.2.2.2.2.2) hO, H6.out.2.2.2.2.2.2.2.2.1, H6.out.2.2.2.2.2.2.2.2.2.1, H6.out.2.2.2.2.2.2.2.2.2.2.1, H6.out.2.2.2.2.2.2.2.2.2.2.2.1, H6.out.2.2.2.2.2.2.2.2.2.2.2.2.1, hB2, H6.out.2.2.2.2.2.2.2.2.2.2.2.2.2.2.1, H6.out.2.2.2.2.2.2.2.2.2.2.2.2.2.2.2.1, H6.out.2.2.2.2.2.2.2.2.2.2.2.2.2.2.2.2.1, H6.out.2.2.2.2.2.2.2.2.2.2.2.2.2.2.2.2.2.1, H6.out.2.2.2.2.2.2.2.2.2.2.2.2.2.2.2.2.2.2.1, H6.out.2.2.2.2.2.2.2.2.2.2.2.2.2.2.2.2.2.2.2⟩
  clear hS hd hT hb2 hB2 hO d13 d14 H6
  go_upto_region 7 with fail
  have L1 : Hid ((loadVar 30 ⟨A5, 0, none⟩).run Tryd.prog W12 = .ok (.agg (tdV (tG (f % QQ) (a % QQ) zp)).toArray) W12) := H7.out.2.2.2.2.2.2.2.1.load 0 (tdV (tG (f % QQ) (a % QQ) zp)) (by rfl) Tryd.underlying30 rfl (by kernel_rfl)
  have L2 : Hid ((loadVar 30 ⟨A7, 0, none⟩).run Tryd.prog W12 = .ok (.agg (tdV (tG (f % QQ) (b % QQ) zq)).toArray) W12) := H7.out.2.2.2.2.2.2.2.2.2.2.2.2.2.1.load 0 (tdV (tG (f % QQ) (b % QQ) zq)) (by rfl) Tryd.underlying30 rfl (by kernel_rfl)
  go_wp2_with (first | ((with_reducible refine load_tk (b := A5) (k := 0) (x := 9) ?_ ?_ ?_ L1.out ?_); rfl; rfl; rfl) | ((with_reducible refine load_tk (b := A7) (k := 0) (x := 10) ?_ ?_ ?_ L2.out ?_); rfl; rfl; rfl))
  refine (KL1.out _ H7.out.2.2.2.2.1).mono ?_
  rintro e w13 ⟨rfl, hb13⟩
  have H8 : Hid (Below w.heap.size w w13 ∧ Bk w.heap.size w13 N (seV d ee f x) 43 ∧ Bk w.heap.size w13 (N + 1) (nuV a) 24 ∧ Bk w.heap.size w13 (N + 1 + 1) (nuV b) 24 ∧ GlobQ w13 ∧ Bk w.heap.size w13 A2 (fvV) 45 ∧ Bk w.heap.size w13 A3 (nuV kk) 24 ∧ Bk w.heap.size w13 A5 (tdV (tG (f % QQ) (a % QQ) zp)) 30 ∧ N < A5 ∧ (N + 1) < A5 ∧ (N + 1 + 1) < A5 ∧ A2 < A5 ∧ A3 < A5 ∧ Bk w.heap.size w13 A7 (tdV (tG (f % QQ) (b % QQ) zq)) 30 ∧ N < A7 ∧ (N + 1) < A7 ∧ (N + 1 + 1) < A7 ∧ A2 < A7 ∧ A3 < A7 ∧ A5 < A7) := ⟨below_call0 H7.out.1 hb13, H7.out.2.1.call hb13, H7.out.2.2.1.call hb13, H7.out.2.2.2.1.call hb13, H7.out.2.2.2.2.1.call hb13, H7.out.2.2.2.2.2.1.call hb13, H7.out.2.2.2.2.2.2.1.call hb13, H7.out.2.2.2.2.2.2.2.1.call hb13, H7.out.2.2.2.2.2.2.2.2.1, H7.out.2.2.2.2.2.2.2.2.2.1, H7.out.2.2.2.2.2.2.2.2.2.2.1, H7.out.2.2.2.2.2.2.2.2.2.2.2.1, H7.out.2.2.2.2.2.2.2.2.2.2.2.2.1, H7.out.2.2.2.2.2.2.2.2.2.2.2.2.2.1.call hb13, H7.out.2.2.2.2.2.2.2.2.2.2.2.2.2.2.1, H7.out.2.2.2.2.2.2.2.2.2.2.2.2.2.2.2.1, H7.out.2.2.2.2.2.2.2.2.2.2.2.2.2.2.2.2.1, H7.out.2.2.2.2.2.2.2.2.2.2.2.2.2.2.2.2.2.1, H7.out.2.2.2.2.2.2.2.2.2.2.2.2.2.2.2.2.2.2.1, H7.out.2.2.2.2.2.2.2.2.2.2.2.2.2.2.2.2.2.2.2⟩
  clear hb13 L1 L2 H7
  obtain ⟨W14, A14, hA, hS, hb, hB⟩ := Bk.fresh H8.out.1 (Nat.le_refl _) #[.int .u64 0, .int .u64 0, .int .u64 0, .int .u64 0] (nuV r) 24 (by kernel_rfl) rfl (by kernel_rfl)
  have HA : Hid (A14 = w13.heap.size) := hA
  have HS : Hid _ := hS
  have HB : Hid (Below w13.heap.size w13 W14 ∧ Bk w.heap.size W14 A14 (nuV r) 24) := ⟨hb, hB⟩
  clear hA hS hb hB
  go_upto_region 8 with (first | ((rw [← HA.out]); ((with_reducible refine store_tk (b := A14) (k := 0) (x := 11) (y := 77) ?_ ?_ ?_ ?_ HS.out ?_); rfl; rfl; rfl; rfl)) | ((with_reducible refine store_tk (b := A14) (k := 0) (x := 11) (y := 77) ?_ ?_ ?_ ?_ HS.out ?_); rfl; rfl; rfl; rfl))
  have H9 : Hid (Below w.heap.size w W14 ∧ Bk w.heap.size W14 N (seV d ee f x) 43 ∧ Bk w.heap.size W14 (N + 1) (nuV a) 24 ∧ Bk w.heap.size W14 (N + 1 + 1) (nuV b) 24 ∧ GlobQ W14 ∧ Bk w.heap.size W14 A2 (fvV) 45 ∧ Bk w.heap.size W14 A3 (nuV kk) 24 ∧ Bk w.heap.size W14 A5 (tdV (tG (f % QQ) (a % QQ) zp)) 30 ∧ N < A5 ∧ (N + 1) < A5 ∧ (N + 1 + 1) < A5 ∧ A2 < A5 ∧ A3 < A5 ∧ Bk w.heap.size W14 A7 (tdV (tG (f % QQ) (b % QQ) zq)) 30 ∧ N < A7 ∧ (N + 1) < A7 ∧ (N + 1 + 1) < A7 ∧ A2 < A7 ∧ A3 < A7 ∧ A5 < A7 ∧ Bk w.heap.size W14 A14 (nuV r) 24) := ⟨below_call0 H8.out.1 HB.out.1, H8.out.2.1.call HB.out.1, H8.out.2.2.1.call HB.out.1, H8.out.2.2.2.1.call HB.out.1, H8.out.2.2.2.2.1.call HB.out.1, H8.out.2.2.2.2.2.1.call HB.out.1, H8.out.2.2.2.2.2.2.1.call HB.out.1, H8.out.2.2.2.2.2.2.2.1.call HB.out.1, H8.out.2.2.2.2.2.2.2.2.1, H8.out.2.2.2.2.2.2.2.2.2.1, H8.out.2.2.2.2.2.2.2.2.2.2.1, H8.out.2.2.2.2.2.2.2.2.2.2.2.1, H8.out.2.2.2.2.2.2.2.2.2.2.2.2.1, H8.out.2.2.2.2.2.2.2.2.2.2.2.2.2.1.call HB.out.1, H8.out.2.2.2.2.2.2.2.2.2.2.2.2.2.2.1, H8.out.2.2.2.2.2.2.2.2.2.2.2.2.2.2.2.1, H8.out.2.2.2.2.2.2.2.2.2.2.2.2.2.2.2.2.1, H8.out.2.2.2.2.2.2.2.2.2.2.2.2.2.2.2.2.2.1, H8.out.2.2.2.2.2.2.2.2.2.2.2.2.2.2.2.2.2.2.1, H8.out.2.2.2.2.2.2.2.2.2.2.2.2.2.2.2.2.2.2.2, HB.out.2⟩
  clear HA HS HB H8
  have L3 : Hid ((loadVar 30 ⟨A7, 0, none⟩).run Tryd.prog W14 = .ok (.agg (tdV (tG (f % QQ) (b % QQ) zq)).toArray) W14) := H9.out.2.2.2.2.2.2.2.2.2.2.2.2.2.1.load 0 (tdV (tG (f % QQ) (b % QQ) zq)) (by rfl) Tryd.underlying30 rfl (by kernel_rfl)
  have L4 : Hid ((loadVar 30 ⟨A5, 0, none⟩).run Tryd.prog W14 = .ok (.agg (tdV (tG (f % QQ) (a % QQ) zp)).toArray) W14) := H9.out.2.2.2.2.2.2.2.1.load 0 (tdV (tG (f % QQ) (a % QQ) zp)) (by rfl) Tryd.underlying30 rfl (by kernel_rfl)
  go_wp2_with (first | ((with_reducible refine load_tk (b := A7) (k := 0) (x := 10) ?_ ?_ ?_ L3.out ?_); rfl; rfl; rfl) | ((with_reducible refine load_tk (b := A5) (k := 0) (x := 9) ?_ ?_ ?_ L4.out ?_); rfl; rfl; rfl))
  refine (KL2.out _ H9.out.2.2.2.2.1).mono ?_
  rintro e w15 ⟨rfl, hb15⟩
  have H10 : Hid (Below w.heap.size w w15 ∧ Bk w.heap.size w15 N (seV d ee f x) 43 ∧ Bk w.heap.size w15 (N + 1) (nuV a) 24 ∧ Bk w.heap.size w15 (N + 1 + 1) (nuV b) 24 ∧ GlobQ w15 ∧ Bk w.heap.size w15 A2 (fvV) 45 ∧ Bk w.heap.size w15 A3 (nuV kk) 24 ∧ Bk w.heap.size w15 A5 (tdV (tG (f % QQ) (a % QQ) zp)) 30 ∧ N < A5 ∧ (N + 1) < A5 ∧ (N + 1 + 1) < A5 ∧ A2 < A5 ∧ A3 < A5 ∧ Bk w.heap.size w15 A7 (tdV (tG (f % QQ) (b % QQ) zq)) 30 ∧ N < A7 ∧ (N + 1) < A7 ∧ (N + 1 + 1) < A7 ∧ A2 < A7 ∧ A3 < A7 ∧ A5 < A7 ∧ Bk w.heap.size w15 A14 (nuV r) 24) := ⟨below_call0 H9.out.1 hb15, H9.out.2.1.call hb15, H9.out.2.2.1.call hb15, H9.out.2.2.2.1.call hb15, H9.out.2.2.2.2.1.call hb15, H9.out.2.2.2.2.2.1.call hb15, H9.out.2.2.2.2.2.2.1.call hb15, H9.out.2.2.2.2.2.2.2.1.call hb15, H9.out.2.2.2.2.2.2.2.2.1, H9.out.2.2.2.2.2.2.2.2.2.1, H9.out.2.2.2.2.2.2.2.2.2.2.1, H9.out.2.2.2.2.2.2.2.2.2.2.2.1, H9.out.2.2.2.2.2.2.2.2.2.2.2.2.1, H9.out.2.2.2.2.2.2.2.2.2.2.2.2.2.1.call hb15, H9.out.2.2.2.2.2.2.2.2.2.2.2.2.2.2.1, H9.out.2.2.2.2.2.2.2.2.2.2.2.2.2.2.2.1, H9.out.2.2.2.2.2.2.2.2.2.2.2.2.2.2.2.2.1, H9.out.2.2.2.2.2.2.2.2.2.2.2.2.2.2.2.2.2.1, H9.out.2.2.2.2.2.2.2.2.2.2.2.2.2.2.2.2.2.2.1, H9.out.2.2.2.2.2.2.2.2.2.2.2.2.2.2.2.2.2.2.2.1, H9.out.2.2.2.2.2.2.2.2.2.2.2.2.2.2.2.2.2.2.2.2.call hb15⟩
  clear hb15 L3 L4 H9
  obtain ⟨W16, A16, hA, hS, hb, hB⟩ := Bk.fresh H10.out.1 (Nat.le_refl _) #[.int .u64 0, .int .u64 0, .int .u64 0, .int .u64 0] (nuV r) 24 (by kernel_rfl) rfl (by kernel_rfl)
  have HA : Hid (A16 = w15.heap.size) := hA
  have HS : Hid _ := hS
  have HB : Hid (Below w15.heap.size w15 W16 ∧ Bk w.heap.size W16 A16 (nuV r) 24) := ⟨hb, hB⟩
  clear hA hS hb hB
  go_upto_region 9 with (first | ((rw [← HA.out]); ((with_reducible refine store_tk (b := A16) (k := 0) (x := 13) (y := 83) ?_ ?_ ?_ ?_ HS.out ?_); rfl; rfl; rfl; rfl)) | ((with_reducible refine store_tk (b := A16) (k := 0) (x := 13) (y := 83) ?_ ?_ ?_ ?_ HS.out ?_); rfl; rfl; rfl; rfl))
  have H11 : Hid (Below w.heap.size w W16 ∧ Bk w.heap.size W16 N (seV d ee f x) 43 ∧ Bk w.heap.size W16 (N + 1) (nuV a) 24 ∧ Bk w.heap.size W16 (N + 1 + 1) (nuV b) 24 ∧ GlobQ W16 ∧ Bk w.heap.size W16 A2 (fvV) 45 ∧ Bk w.heap.size W16 A3 (nuV kk) 24 ∧ Bk w.heap.size W16 A5 (tdV (tG (f % QQ) (a % QQ) zp)) 30 ∧ N < A5 ∧ (N + 1) < A5 ∧ (N + 1 + 1) < A5 ∧ A2 < A5 ∧ A3 < A5 ∧ Bk w.heap.size W16 A7 (tdV (tG (f % QQ) (b % QQ) zq)) 30 ∧ N < A7 ∧ (N + 1) < A7 ∧ (N + 1 + 1) < A7 ∧ A2 < A7 ∧ A3 < A7 ∧ A5 < A7 ∧ Bk w.heap.size W16 A14 (nuV r) 24 ∧ Bk w.heap.size W16 A16 (nuV r) 24) := ⟨below_call0 H10.out.1 HB.out.1, H10.out.2.1.call HB.out.1, H10.out.2.2.1.call HB.out.1, H10.out.2.2.2.1.call HB.out.1, H10.out.2.2.2.2.1.call HB.out.1, H10.out.2.2.2.2.2.1.call HB.out.1, H10.out.2.2.2.2.2.2.1.call HB.out.1, H10.out.2.2.2.2.2.2.2.1.call HB.out.1, H10.out.2.2.2.2.2.2.2.2.1, H10.out.2.2.2.2.2.2.2.2.2.1, H10.out.2.2.2.2.2.2.2.2.2.2.1, H10.out.2.2.2.2.2.2.2.2.2.2.2.1, H10.out.2.2.2.2.2.2.2.2.2.2.2.2.1, H10.out.2.2.2.2.2.2.2.2.2.2.2.2.2.1.call HB.out.1, H10.out.2.2.2.2.2.2.2.2.2.2.2.2.2.2.1, H10.out.2.2.2.2.2.2.2.2.2.2.2.2.2.2.2.1, H10.out.2.2.2.2.2.2.2.2.2.2.2.2.2.2.2.2.1, H10.out.2.2.2.2.2.2.2.2.2.2.2.2.2.2.2.2.2.1, H10.out.2.2.2.2.2.2.2.2.2.2.2.2.2.2.2.2.2.2.1, H10.out.2.2.2.2.2.2.2.2.2.2.2.2.2.2.2.2.2.2.2.1, H10.out.2.2.2.2.2.2.2.2.2.2.2.2.2.2.2.2.2.2.2.2.call HB.out.1, HB.out.2⟩
  clear HA HS HB H10
  cases D
  · refine wp_region_H (fun w' => Below W16.heap.size W16 w') 5 rfl (by kernel_rfl) ?_
    refine wpAnyH_take (i := 0) (oi := ?o0n9_16) (v := .agg (nuV a).toArray) ?hi0n9_16 (by kernel_rfl) (by kernel_rfl) (by kernel_rfl) ?hQ0n9_16 ?hy0n9_16 (Below.drew (Below.refl _ _)) ?more0n9_16
    case hi0n9_16 => rw [List.getElem?_toArray]; exact rfl
    case hQ0n9_16 => exact fun _ _ _ h => h
    case hy0n9_16 =>
      refine Or.inl ⟨by rfl, ?_⟩
      intro w' hSw
      exact exec_loadK (b := (N + 1)) (k := 0) (x := 4) rfl rfl ((H11.out.2.2.1.call hSw).load 0 (nuV a) (by rfl) Tryd.underlying24 rfl (by kernel_rfl))
    simp only [Act.put, List.setIfInBounds_toArray, List.set_cons_zero, List.set_cons_succ]
    refine wpAnyH_take (i := 2) (oi := ?o2n9_16) (v := .agg (nuV b).toArray) ?hi2n9_16 (by kernel_rfl) (by kernel_rfl) (by kernel_rfl) ?hQ2n9_16 ?hy2n9_16 (Below.drew (Below.refl _ _)) ?more2n9_16
    case hi2n9_16 => rw [List.getElem?_toArray]; exact rfl
    case hQ2n9_16 => exact fun _ _ _ h => h
    case hy2n9_16 =>
      refine Or.inl ⟨by rfl, ?_⟩
      intro w' hSw
      exact exec_loadK (b := (N + 1 + 1)) (k := 0) (x := 5) rfl rfl ((H11.out.2.2.2.1.call hSw).load 0 (nuV b) (by rfl) Tryd.underlying24 rfl (by kernel_rfl))
    simp only [Act.put, List.setIfInBounds_toArray, List.set_cons_zero, List.set_cons_succ]
    refine wpAnyH_one (i := 1) (o := ?o1n9_16) (by kernel_rfl) ?hi1n9_16 ?hw1n9_16 ?st1n9_16
    case hi1n9_16 => rw [List.getElem?_toArray]; exact rfl
    case hw1n9_16 => exact rfl
    intro K hK
    have HK1n9_16 : Hid _ := hK
    clear hK
    go_simp
    refine (KIa.out _).mono ?_
    rintro e w17 ⟨rfl, hb17⟩
    have I17 : Hid (Below W16.heap.size W16 w17) := below_call0 (Below.drew (Below.refl _ _)) hb17
    clear hb17
    go_wp2_with fail
    refine HK1n9_16.out _ _ ⟨I17.out, ?_⟩
    clear HK1n9_16 K
    try simp only [Act.put, List.setIfInBounds_toArray, List.set_cons_zero, List.set_cons_succ]
    refine wpAnyH_one (i := 3) (o := ?o3n9_16) (by kernel_rfl) ?hi3n9_16 ?hw3n9_16 ?st3n9_16
    case hi3n9_16 => rw [List.getElem?_toArray]; exact rfl
    case hw3n9_16 => exact rfl
    intro K hK
    have HK3n9_16 : Hid _ := hK
    clear hK
    go_simp
    refine (KIb.out _).mono ?_
    rintro e w18 ⟨rfl, hb18⟩
    have I18 : Hid (Below W16.heap.size W16 w18) := below_call0 I17.out hb18
    clear hb18
    go_wp2_with fail
    refine HK3n9_16.out _ _ ⟨I18.out, ?_⟩
    clear HK3n9_16 K
    try simp only [Act.put, List.setIfInBounds_toArray, List.set_cons_zero, List.set_cons_succ]
    refine wpAnyH_take (i := 4) (oi := ?o4n9_16) (v := ?v4n9_16) ?hi4n9_16 (by kernel_rfl) (by kernel_rfl) (by kernel_rfl) ?hQ4n9_16 ?hy4n9_16 I18.out ?more4n9_16
    case hi4n9_16 => rw [List.getElem?_toArray]; exact rfl
    case hQ4n9_16 => exact fun _ _ _ h => h
    case hy4n9_16 =>
      refine Or.inl ⟨by rfl, ?_⟩
      intro w' hSw
      clear hSw
      have hq := HD.out
      go_simp
      try with_reducible rfl
    simp only [Act.put, List.setIfInBounds_toArray, List.set_cons_zero, List.set_cons_succ]
    refine wpAnyH_done (by kernel_rfl) ?_ _
    have H12 : Hid (Below w.heap.size w w18 ∧ Bk w.heap.size w18 N (seV d ee f x) 43 ∧ Bk w.heap.size w18 (N + 1) (nuV a) 24 ∧ Bk w.heap.size w18 (N + 1 + 1) (nuV b) 24 ∧ GlobQ w18 ∧ Bk w.heap.size w18 A2 (fvV) 45 ∧ Bk w.heap.size w18 A3 (nuV kk) 24 ∧ Bk w.heap.size w18 A5 (tdV (tG (f % QQ) (a % QQ) zp)) 30 ∧ N < A5 ∧ (N + 1) < A5 ∧ (N + 1 + 1) < A5 ∧ A2 < A5 ∧ A3 < A5 ∧ Bk w.heap.size w18 A7 (tdV (tG (f % QQ) (b % QQ) zq)) 30 ∧ N < A7 ∧ (N + 1) < A7 ∧ (N + 1 + 1) < A7 ∧ A2 < A7 ∧ A3 < A7 ∧ A5 < A7 ∧ Bk w.heap.size w18 A14 (nuV r) 24 ∧ Bk w.heap.size w18 A16 (nuV r) 24) := ⟨below_call0 H11.out.1 I18.out, H11.out.2.1.call I18.out, H11.out.2.2.1.call I18.out, H11.out.2.2.2.1.call I18.out, H11.out.2.2.2.2.1.call I18.out, H11.out.2.2.2.2.2.1.call I18.out, H11.out.2.2.2.2.2.2.1.call I18.out, H11.out.2.2.2.2.2.2.2.1.call I18.out, H11.out.2.2.2.2.2.2.2.2.1, H11.out.2.2.2.2.2.2.2.2.2.1, H11.out.2.2.2.2.2.2.2.2.2.2.1, H11.out.2.2.2.2.2.2.2.2.2.2.2.1, H11.out.2.2.2.2.2.2.2.2.2.2.2.2.1, H11.out.2.2.2.2.2.2.2.2.2.2.2.2.2.1.call I18.out, H11.out.2.2.2.2.2.2.2.2.2.2.2.2.2.2.1, H11.out.2.2.2.2.2.2.2.2.2.2.2.2.2.2.2.1, H11.out.2.2.2.2.2.2.2.2.2.2.2.2.2.2.2.2.1, H11.out.2.2.2.2.2.2.2.2.2.2.2.2.2.2.2.2.2.1, H11.out.2.2.2.2.2.2.2.2.2.2.2.2.2.2.2.2.2.2.1, H11.out.2.2.2.2.2.2.2.2.2.2.2.2.2.2.2.2.2.2.2.1, H11.out.2.2.2.2.2.2.2.2.2.2.2.2.2.2.2.2.2.2.2.2.1.call I18.out, H11.out.2.2.2.2.2.2.2.2.2.2.2.2.2.2.2.2.2.2.2.2.2.call I18.out⟩
    clear I17 I18 H11
    go_upto_region 11 with fail
    obtain rfl : E = 0 := HE.out.1
    have hr0 : r = x % QQ := HE.out.2
    have HX : Hid (∀ w : World, (Op.equalIn 10000 24 (.agg (nuV r).toArray) (.agg (nuV (x % QQ)).toArray)).run Tryd.prog w = .ok true w) := fun w => by
      rw [run_num0, ← hr0, eqn_self]
    have HY : Hid (∀ w : World, (Op.equalIn 10000 24 (.agg (nuV r).toArray) (.agg (nuV r).toArray)).run Tryd.prog w = .ok true w) := fun w => by
      rw [run_num0, eqn_self]
    clear HE HD hr0
    refine wp_region_H (fun w' => Below w18.heap.size w18 w') 22 rfl (by kernel_rfl) ?_
    refine wpAnyH_take (i := 0) (oi := ?o0n11_17) (v := ?v0n11_17) ?hi0n11_17 (by kernel_rfl) (by kernel_rfl) (by kernel_rfl) ?hQ0n11_17 ?hy0n11_17 (Below.drew (Below.refl _ _)) ?more0n11_17
    case hi0n11_17 => rw [List.getElem?_toArray]; exact rfl
    case hQ0n11_17 => exact fun _ _ _ h => h
    case hy0n11_17 =>
      refine Or.inl ⟨by rfl, ?_⟩
      intro w' hSw
      clear hSw
      go_simp
      try with_reducible rfl
    simp only [Act.put, List.setIfInBounds_toArray, List.set_cons_zero, List.set_cons_succ]
    refine wpAnyH_take (i := 1) (oi := ?o1n11_17) (v := ?v1n11_17) ?hi1n11_17 (by kernel_rfl) (by kernel_rfl) (by kernel_rfl) ?hQ1n11_17 ?hy1n11_17 (Below.drew (Below.refl _ _)) ?more1n11_17
    case hi1n11_17 => rw [List.getElem?_toArray]; exact rfl
    case hQ1n11_17 => exact fun _ _ _ h => h
    case hy1n11_17 =>
      refine Or.inl ⟨by rfl, ?_⟩
      intro w' hSw
      clear hSw
      go_simp
      try with_reducible rfl
    simp only [Act.put, List.setIfInBounds_toArray, List.set_cons_zero, List.set_cons_succ]
    refine wpAnyH_take (i := 2) (oi := ?o2n11_17) (v := ?v2n11_17) ?hi2n11_17 (by kernel_rfl) (by kernel_rfl) (by kernel_rfl) ?hQ2n11_17 ?hy2n11_17 (Below.drew (Below.refl _ _)) ?more2n11_17
    case hi2n11_17 => rw [List.getElem?_toArray]; exact rfl
    case hQ2n11_17 => exact fun _ _ _ h => h
    case hy2n11_17 =>
      refine Or.inl ⟨by rfl, ?_⟩
      intro w' hSw
      clear hSw
      go_simp
      try with_reducible rfl
    simp only [Act.put, List.setIfInBounds_toArray, List.set_cons_zero, List.set_cons_succ]
    refine wpAnyH_take (i := 3) (oi := ?o3n11_17) (v := ?v3n11_17) ?hi3n11_17 (by kernel_rfl) (by kernel_rfl) (by kernel_rfl) ?hQ3n11_17 ?hy3n11_17 (Below.drew (Below.refl _ _)) ?more3n11_17
    case hi3n11_17 => rw [List.getElem?_toArray]; exact rfl
    case hQ3n11_17 => exact fun _ _ _ h => h
    case hy3n11_17 =>
      refine Or.inl ⟨by rfl, ?_⟩
      intro w' hSw
      clear hSw
      go_simp
      try with_reducible rfl
    simp only [Act.put, List.setIfInBounds_toArray, List.set_cons_zero, List.set_cons_succ]
    refine wpAnyH_take (i := 4) (oi := ?o4n11_17) (v := ?v4n11_17) ?hi4n11_17 (by kernel_rfl) (by kernel_rfl) (by kernel_rfl) ?hQ4n11_17 ?hy4n11_17 (Below.drew (Below.refl _ _)) ?more4n11_17
    case hi4n11_17 => rw [List.getElem?_toArray]; exact rfl
    case hQ4n11_17 => exact fun _ _ _ h => h
    case hy4n11_17 =>
      refine Or.inl ⟨by rfl, ?_⟩
      intro w' hSw
      clear hSw
      go_simp
      try with_reducible rfl
    simp only [Act.put, List.setIfInBounds_toArray, List.set_cons_zero, List.set_cons_succ]
    refine wpAnyH_take (i := 5) (oi := ?o5n11_17) (v := ?v5n11_17) ?hi5n11_17 (by kernel_rfl) (by kernel_rfl) (by kernel_rfl) ?hQ5n11_17 ?hy5n11_17 (Below.drew (Below.refl _ _)) ?more5n11_17
    case hi5n11_17 => rw [List.getElem?_toArray]; exact rfl
    case hQ5n11_17 => exact fun _ _ _ h => h
    case hy5n11_17 =>
      refine Or.inl ⟨by rfl, ?_⟩
      intro w' hSw
      clear hSw
      go_simp
      try with_reducible rfl
    simp only [Act.put, List.setIfInBounds_toArray, List.set_cons_zero, List.set_cons_succ]
    refine wpAnyH_take (i := 6) (oi := ?o6n11_17) (v := ?v6n11_17) ?hi6n11_17 (by kernel_rfl) (by kernel_rfl) (by kernel_rfl) ?hQ6n11_17 ?hy6n11_17 (Below.drew (Below.refl _ _)) ?more6n11_17
    case hi6n11_17 => rw [List.getElem?_toArray]; exact rfl
    case hQ6n11_17 => exact fun _ _ _ h => h
    case hy6n11_17 =>
      refine Or.inl ⟨by rfl, ?_⟩
      intro w' hSw
      clear hSw
      go_simp
      try with_reducible rfl
    simp only [Act.put, List.setIfInBounds_toArray, List.set_cons_zero, List.set_cons_succ]
    refine wpAnyH_take (i := 7) (oi := ?o7n11_17) (v := .agg (nuV r).toArray) ?hi7n11_17 (by kernel_rfl) (by kernel_rfl) (by kernel_rfl) ?hQ7n11_17 ?hy7n11_17 (Below.drew (Below.refl _ _)) ?more7n11_17
    case hi7n11_17 => rw [List.getElem?_toArray]; exact rfl
    case hQ7n11_17 => exact fun _ _ _ h => h
    case hy7n11_17 =>
      refine Or.inl ⟨by rfl, ?_⟩
      intro w' hSw
      exact exec_loadK (b := A14) (k := 0) (x := 11) rfl rfl ((H12.out.2.2.2.2.2.2.2.2.2.2.2.2.2.2.2.2.2.2.2.2.1.call hSw).load 0 (nuV r) (by rfl) Tryd.underlying24 rfl (by kernel_rfl))
    simp only [Act.put, List.setIfInBounds_toArray, List.set_cons_zero, List.set_cons_succ]
    refine wpAnyH_take (i := 8) (oi := ?o8n11_17) (v := ?v8n11_17) ?hi8n11_17 (by kernel_rfl) (by kernel_rfl) (by kernel_rfl) ?hQ8n11_17 ?hy8n11_17 (Below.drew (Below.refl _ _)) ?more8n11_17
    case hi8n11_17 => rw [List.getElem?_toArray]; exact rfl
    case hQ8n11_17 => exact fun _ _ _ h => h
    case hy8n11_17 =>
      refine Or.inl ⟨by rfl, ?_⟩
      intro w' hSw
      clear hSw
      go_simp
      try with_reducible rfl
    simp only [Act.put, List.setIfInBounds_toArray, List.set_cons_zero, List.set_cons_succ]
    refine wpAnyH_take (i := 9) (oi := ?o9n11_17) (v := .agg (nuV x).toArray) ?hi9n11_17 (by kernel_rfl) (by kernel_rfl) (by kernel_rfl) ?hQ9n11_17 ?hy9n11_17 (Below.drew (Below.refl _ _)) ?more9n11_17
    case hi9n11_17 => rw [List.getElem?_toArray]; exact rfl
    case hQ9n11_17 => exact fun _ _ _ h => h
    case hy9n11_17 =>
      refine Or.inl ⟨by rfl, ?_⟩
      intro w' hSw
      exact exec_loadK (b := N) (k := 12) (x := 107) rfl rfl ((H12.out.2.1.call hSw).load 12 (nuV x) (by rfl) Tryd.underlying24 rfl (by kernel_rfl))
    simp only [Act.put, List.setIfInBounds_toArray, List.set_cons_zero, List.set_cons_succ]
    refine wpAnyH_one (i := 10) (o := ?o10n11_17) (by kernel_rfl) ?hi10n11_17 ?hw10n11_17 ?st10n11_17
    case hi10n11_17 => rw [List.getElem?_toArray]; exact rfl
    case hw10n11_17 => exact rfl
    intro K hK
    have HK10n11_17 : Hid _ := hK
    clear hK
    go_simp
    refine (KIx.out _).mono ?_
    rintro e w19 ⟨rfl, hb19⟩
    have I19 : Hid (Below w18.heap.size w18 w19) := below_call0 (Below.drew (Below.refl _ _)) hb19
    clear hb19
    go_wp2_with fail
    refine HK10n11_17.out _ _ ⟨I19.out, ?_⟩
    clear HK10n11_17 K
    try simp only [Act.put, List.setIfInBounds_toArray, List.set_cons_zero, List.set_cons_succ]
    refine wpAnyH_take (i := 11) (oi := ?o11n11_17) (v := ?v11n11_17) ?hi11n11_17 (by kernel_rfl) (by kernel_rfl) (by kernel_rfl) ?hQ11n11_17 ?hy11n11_17 I19.out ?more11n11_17
    case hi11n11_17 => rw [List.getElem?_toArray]; exact rfl
    case hQ11n11_17 => exact fun _ _ _ h => h
    case hy11n11_17 =>
      refine Or.inl ⟨by rfl, ?_⟩
      intro w' hSw
      clear hSw
      have hq := HX.out
      go_simp
      try with_reducible rfl
    simp only [Act.put, List.setIfInBounds_toArray, List.set_cons_zero, List.set_cons_succ]
    refine wpAnyH_take (i := 12) (oi := ?o12n11_17) (v := ?v12n11_17) ?hi12n11_17 (by kernel_rfl) (by kernel_rfl) (by kernel_rfl) ?hQ12n11_17 ?hy12n11_17 I19.out ?more12n11_17
    case hi12n11_17 => rw [List.getElem?_toArray]; exact rfl
    case hQ12n11_17 => exact fun _ _ _ h => h
    case hy12n11_17 =>
      refine Or.inl ⟨by rfl, ?_⟩
      intro w' hSw
      clear hSw
      go_simp
      try with_reducible rfl
    simp only [Act.put, List.setIfInBounds_toArray, List.set_cons_zero, List.set_cons_succ]
    refine wpAnyH_take (i := 13) (oi := ?o13n11_17) (v := ?v13n11_17) ?hi13n11_17 (by kernel_rfl) (by kernel_rfl) (by kernel_rfl) ?hQ13n11_17 ?hy13n11_17 I19.out ?more13n11_17
    case hi13n11_17 => rw [List.getElem?_toArray]; exact rfl
    case hQ13n11_17 => exact fun _ _ _ h => h
    case hy13n11_17 =>
      refine Or.inl ⟨by rfl, ?_⟩
      intro w' hSw
      clear hSw
      go_simp
      try with_reducible rfl
    simp only [Act.put, List.setIfInBounds_toArray, List.set_cons_zero, List.set_cons_succ]
    refine wpAnyH_take (i := 14) (oi := ?o14n11_17) (v := .agg (nuV r).toArray) ?hi14n11_17 (by kernel_rfl) (by kernel_rfl) (by kernel_rfl) ?hQ14n11_17 ?hy14n11_17 I19.out ?more14n11_17
    case hi14n11_17 => rw [List.getElem?_toArray]; exact rfl
    case hQ14n11_17 => exact fun _ _ _ h => h
    case hy14n11_17 =>
      refine Or.inl ⟨by rfl, ?_⟩
      intro w' hSw
      exact exec_loadK (b := A16) (k := 0) (x := 13) rfl rfl ((H12.out.2.2.2.2.2.2.2.2.2.2.2.2.2.2.2.2.2.2.2.2.2.call hSw).load 0 (nuV r) (by rfl) Tryd.underlying24 rfl (by kernel_rfl))
    simp only [Act.put, List.setIfInBounds_toArray, List.set_cons_zero, List.set_cons_succ]
    refine wpAnyH_take (i := 15) (oi := ?o15n11_17) (v := .agg (nuV r).toArray) ?hi15n11_17 (by kernel_rfl) (by kernel_rfl) (by kernel_rfl) ?hQ15n11_17 ?hy15n11_17 I19.out ?more15n11_17
    case hi15n11_17 => rw [List.getElem?_toArray]; exact rfl
    case hQ15n11_17 => exact fun _ _ _ h => h
    case hy15n11_17 =>
      refine Or.inl ⟨by rfl, ?_⟩
      intro w' hSw
      exact exec_loadK (b := A14) (k := 0) (x := 11) rfl rfl ((H12.out.2.2.2.2.2.2.2.2.2.2.2.2.2.2.2.2.2.2.2.2.1.call hSw).load 0 (nuV r) (by rfl) Tryd.underlying24 rfl (by kernel_rfl))
    simp only [Act.put, List.setIfInBounds_toArray, List.set_cons_zero, List.set_cons_succ]
    refine wpAnyH_take (i := 16) (oi := ?o16n11_17) (v := ?v16n11_17) ?hi16n11_17 (by kernel_rfl) (by kernel_rfl) (by kernel_rfl) ?hQ16n11_17 ?hy16n11_17 I19.out ?more16n11_17
    case hi16n11_17 => rw [List.getElem?_toArray]; exact rfl
    case hQ16n11_17 => exact fun _ _ _ h => h
    case hy16n11_17 =>
      refine Or.inl ⟨by rfl, ?_⟩
      intro w' hSw
      clear hSw
      have hq := HY.out
      go_simp
      try with_reducible rfl
    simp only [Act.put, List.setIfInBounds_toArray, List.set_cons_zero, List.set_cons_succ]
    refine wpAnyH_take (i := 17) (oi := ?o17n11_17) (v := ?v17n11_17) ?hi17n11_17 (by kernel_rfl) (by kernel_rfl) (by kernel_rfl) ?hQ17n11_17 ?hy17n11_17 I19.out ?more17n11_17
    case hi17n11_17 => rw [List.getElem?_toArray]; exact rfl
    case hQ17n11_17 => exact fun _ _ _ h => h
    case hy17n11_17 =>
      refine Or.inl ⟨by rfl, ?_⟩
      intro w' hSw
      clear hSw
      go_simp
      try with_reducible rfl
    simp only [Act.put, List.setIfInBounds_toArray, List.set_cons_zero, List.set_cons_succ]
    refine wpAnyH_take (i := 18) (oi := ?o18n11_17) (v := ?v18n11_17) ?hi18n11_17 (by kernel_rfl) (by kernel_rfl) (by kernel_rfl) ?hQ18n11_17 ?hy18n11_17 I19.out ?more18n11_17
    case hi18n11_17 => rw [List.getElem?_toArray]; exact rfl
    case hQ18n11_17 => exact fun _ _ _ h => h
    case hy18n11_17 =>
      refine Or.inl ⟨by rfl, ?_⟩
      intro w' hSw
      clear hSw
      go_simp
      try with_reducible rfl
    simp only [Act.put, List.setIfInBounds_toArray, List.set_cons_zero, List.set_cons_succ]
    refine wpAnyH_one (i := 19) (o := ?o19n11_17) (by kernel_rfl) ?hi19n11_17 ?hw19n11_17 ?st19n11_17
    case hi19n11_17 => rw [List.getElem?_toArray]; exact rfl
    case hw19n11_17 => exact rfl
    intro K hK
    have HK19n11_17 : Hid _ := hK
    clear hK
    go_simp
    refine (K2.out _ (H12.out.2.2.2.2.1.call I19.out)).mono ?_
    rintro e w20 ⟨rfl, hb20⟩
    have I20 : Hid (Below w18.heap.size w18 w20) := below_call0 I19.out hb20
    clear hb20
    go_wp2_with fail
    refine HK19n11_17.out _ _ ⟨I20.out, ?_⟩
    clear HK19n11_17 K
    try simp only [Act.put, List.setIfInBounds_toArray, List.set_cons_zero, List.set_cons_succ]
    refine wpAnyH_take (i := 20) (oi := ?o20n11_17) (v := ?v20n11_17) ?hi20n11_17 (by kernel_rfl) (by kernel_rfl) (by kernel_rfl) ?hQ20n11_17 ?hy20n11_17 I20.out ?more20n11_17
    case hi20n11_17 => rw [List.getElem?_toArray]; exact rfl
    case hQ20n11_17 => exact fun _ _ _ h => h
    case hy20n11_17 =>
      refine Or.inl ⟨by rfl, ?_⟩
      intro w' hSw
      clear hSw
      go_simp
      try with_reducible rfl
    simp only [Act.put, List.setIfInBounds_toArray, List.set_cons_zero, List.set_cons_succ]
    refine wpAnyH_take (i := 21) (oi := ?o21n11_17) (v := ?v21n11_17) ?hi21n11_17 (by kernel_rfl) (by kernel_rfl) (by kernel_rfl) ?hQ21n11_17 ?hy21n11_17 I20.out ?more21n11_17
    case hi21n11_17 => rw [List.getElem?_toArray]; exact rfl
    case hQ21n11_17 => exact fun _ _ _ h => h
    case hy21n11_17 =>
      refine Or.inl ⟨by rfl, ?_⟩
      intro w' hSw
      clear hSw
      go_simp
      try with_reducible rfl
    simp only [Act.put, List.setIfInBounds_toArray, List.set_cons_zero, List.set_cons_succ]
    refine wpAnyH_done (by kernel_rfl) ?_ _
    have H13 : Hid (Below w.heap.size w w20 ∧ Bk w.heap.size w20 N (seV d ee f x) 43 ∧ Bk w.heap.size w20 (N + 1) (nuV a) 24 ∧ Bk w.heap.size w20 (N + 1 + 1) (nuV b) 24 ∧ GlobQ w20 ∧ Bk w.heap.size w20 A2 (fvV) 45 ∧ Bk w.heap.size w20 A3 (nuV kk) 24 ∧ Bk w.heap.size w20 A5 (tdV (tG (f % QQ) (a % QQ) zp)) 30 ∧ N < A5 ∧ (N + 1) < A5 ∧ (N + 1 + 1) < A5 ∧ A2 < A5 ∧ A3 < A5 ∧ Bk w.heap.size w20 A7 (tdV (tG (f % QQ) (b % QQ) zq)) 30 ∧ N < A7 ∧ (N + 1) < A7 ∧ (N + 1 + 1) < A7 ∧ A2 < A7 ∧ A3 < A7 ∧ A5 < A7 ∧ Bk w.heap.size w20 A14 (nuV r) 24 ∧ Bk w.heap.size w20 A16 (nuV r) 24) := ⟨below_call0 H12.out.1 I20.out, H12.out.2.1.call I20.out, H12.out.2.2.1.call I20.out, H12.out.2.2.2.1.call I20.out, H12.out.2.2.2.2.1.call I20.out, H12.out.2.2.2.2.2.1.call I20.out, H12.out.2.2.2.2.2.2.1.call I20.out, H12.out.2.2.2.2.2.2.2.1.call I20.out, H12.out.2.2.2.2.2.2.2.2.1, H12.out.2.2.2.2.2.2.2.2.2.1, H12.out.2.2.2.2.2.2.2.2.2.2.1, H12.out.2.2.2.2.2.2.2.2.2.2.2.1, H12.out.2.2.2.2.2.2.2.2.2.2.2.2.1, H12.out.2.2.2.2.2.2.2.2.2.2.2.2.2.1.call I20.out, H12.out.2.2.2.2.2.2.2.2.2.2.2.2.2.2.1, H12.out.2.2.2.2.2.2.2.2.2.2.2.2.2.2.2.1, H12.out.2.2.2.2.2.2.2.2.2.2.2.2.2.2.2.2.1, H12.out.2.2.2.2.2.2.2.2.2.2.2.2.2.2.2.2.2.1, H12.out.2.2.2.2.2.2.2.2.2.2.2.2.2.2.2.2.2.2.1, H12.out.2.2.2.2.2.2.2.2.2.2.2.2.2.2.2.2.2.2.2.1, H12.out.2.2.2.2.2.2.2.2.2.2.2.2.2.2.2.2.2.2.2.2.1.call I20.out, H12.out.2.2.2.2.2.2.2.2.2.2.2.2.2.2.2.2.2.2.2.2.2.call I20.out⟩
    clear I19 I20 H12
    go_wp2_with fail
    go_ret
    exact ⟨rfl, H13.out.1⟩
  · refine wp_region_H (fun w' => Below W16.heap.size W16 w') 5 rfl (by kernel_rfl) ?_
    refine wpAnyH_take (i := 0) (oi := ?o0n9_18) (v := .agg (nuV a).toArray) ?hi0n9_18 (by kernel_rfl) (by kernel_rfl) (by kernel_rfl) ?hQ0n9_18 ?hy0n9_18 (Below.drew (Below.refl _ _)) ?more0n9_18
    case hi0n9_18 => rw [List.getElem?_toArray]; exact rfl
    case hQ0n9_18 => exact fun _ _ _ h => h
    case hy0n9_18 =>
      refine Or.inl ⟨by rfl, ?_⟩
      intro w' hSw
      exact exec_loadK (b := (N + 1)) (k := 0) (x := 4) rfl rfl ((H11.out.2.2.1.call hSw).load 0 (nuV a) (by rfl) Tryd.underlying24 rfl (by kernel_rfl))
    simp only [Act.put, List.setIfInBounds_toArray, List.set_cons_zero, List.set_cons_succ]
    refine wpAnyH_take (i := 2) (oi := ?o2n9_18) (v := .agg (nuV b).toArray) ?hi2n9_18 (by kernel_rfl) (by kernel_rfl) (by kernel_rfl) ?hQ2n9_18 ?hy2n9_18 (Below.drew (Below.refl _ _)) ?more2n9_18
    case hi2n9_18 => rw [List.getElem?_toArray]; exact rfl
    case hQ2n9_18 => exact fun _ _ _ h => h
    case hy2n9_18 =>
      refine Or.inl ⟨by rfl, ?_⟩
      intro w' hSw
      exact exec_loadK (b := (N + 1 + 1)) (k := 0) (x := 5) rfl rfl ((H11.out.2.2.2.1.call hSw).load 0 (nuV b) (by rfl) Tryd.underlying24 rfl (by kernel_rfl))
    simp only [Act.put, List.setIfInBounds_toArray, List.set_cons_zero, List.set_cons_succ]
    refine wpAnyH_one (i := 1) (o := ?o1n9_18) (by kernel_rfl) ?hi1n9_18 ?hw1n9_18 ?st1n9_18
    case hi1n9_18 => rw [List.getElem?_toArray]; exact rfl
    case hw1n9_18 => exact rfl
    intro K hK
    have HK1n9_18 : Hid _ := hK
    clear hK
    go_simp
    refine (KIa.out _).mono ?_
    rintro e w17 ⟨rfl, hb17⟩
    have I17 : Hid (Below W16.heap.size W16 w17) := below_call0 (Below.drew (Below.refl _ _)) hb17
    clear hb17
    go_wp2_with fail
    refine HK1n9_18.out _ _ ⟨I17.out, ?_⟩
    clear HK1n9_18 K
    try simp only [Act.put, List.setIfInBounds_toArray, List.set_cons_zero, List.set_cons_succ]
    refine wpAnyH_one (i := 3) (o := ?o3n9_18) (by kernel_rfl) ?hi3n9_18 ?hw3n9_18 ?st3n9_18
    case hi3n9_18 => rw [List.getElem?_toArray]; exact rfl
    case hw3n9_18 => exact rfl
    intro K hK
    have HK3n9_18 : Hid _ := hK
    clear hK
    go_simp
    refine (KIb.out _).mono ?_
    rintro e w18 ⟨rfl, hb18⟩
    have I18 : Hid (Below W16.heap.size W16 w18) := below_call0 I17.out hb18
    clear hb18
    go_wp2_with fail
    refine HK3n9_18.out _ _ ⟨I18.out, ?_⟩
    clear HK3n9_18 K
    try simp only [Act.put, List.setIfInBounds_toArray, List.set_cons_zero, List.set_cons_succ]
    refine wpAnyH_take (i := 4) (oi := ?o4n9_18) (v := ?v4n9_18) ?hi4n9_18 (by kernel_rfl) (by kernel_rfl) (by kernel_rfl) ?hQ4n9_18 ?hy4n9_18 I18.out ?more4n9_18
    case hi4n9_18 => rw [List.getElem?_toArray]; exact rfl
    case hQ4n9_18 => exact fun _ _ _ h => h
    case hy4n9_18 =>
      refine Or.inl ⟨by rfl, ?_⟩
      intro w' hSw
      clear hSw
      have hq := HD.out
      go_simp
      try with_reducible rfl
    simp only [Act.put, List.setIfInBounds_toArray, List.set_cons_zero, List.set_cons_succ]
    refine wpAnyH_done (by kernel_rfl) ?_ _
    have H12 : Hid (Below w.heap.size w w18 ∧ Bk w.heap.size w18 N (seV d ee f x) 43 ∧ Bk w.heap.size w18 (N + 1) (nuV a) 24 ∧ Bk w.heap.size w18 (N + 1 + 1) (nuV b) 24 ∧ GlobQ w18 ∧ Bk w.heap.size w18 A2 (fvV) 45 ∧ Bk w.heap.size w18 A3 (nuV kk) 24 ∧ Bk w.heap.size w18 A5 (tdV (tG (f % QQ) (a % QQ) zp)) 30 ∧ N < A5 ∧ (N + 1) < A5 ∧ (N + 1 + 1) < A5 ∧ A2 < A5 ∧ A3 < A5 ∧ Bk w.heap.size w18 A7 (tdV (tG (f % QQ) (b % QQ) zq)) 30 ∧ N < A7 ∧ (N + 1) < A7 ∧ (N + 1 + 1) < A7 ∧ A2 < A7 ∧ A3 < A7 ∧ A5 < A7 ∧ Bk w.heap.size w18 A14 (nuV r) 24 ∧ Bk w.heap.size w18 A16 (nuV r) 24) := ⟨below_call0 H11.out.1 I18.out, H11.out.2.1.call I18.out, H11.out.2.2.1.call I18.out, H11.out.2.2.2.1.call I18.out, H11.out.2.2.2.2.1.call I18.out, H11.out.2.2.2.2.2.1.call I18.out, H11.out.2.2.2.2.2.2.1.call I18.out, H11.out.2.2.2.2.2.2.2.1.call I18.out, H11.out.2.2.2.2.2.2.2.2.1, H11.out.2.2.2.2.2.2.2.2.2.1, H11.out.2.2.2.2.2.2.2.2.2.2.1, H11.out.2.2.2.2.2.2.2.2.2.2.2.1, H11.out.2.2.2.2.2.2.2.2.2.2.2.2.1, H11.out.2.2.2.2.2.2.2.2.2.2.2.2.2.1.call I18.out, H11.out.2.2.2.2.2.2.2.2.2.2.2.2.2.2.1, H11.out.2.2.2.2.2.2.2.2.2.2.2.2.2.2.2.1, H11.out.2.2.2.2.2.2.2.2.2.2.2.2.2.2.2.2.1, H11.out.2.2.2.2.2.2.2.2.2.2.2.2.2.2.2.2.2.1, H11.out.2.2.2.2.2.2.2.2.2.2.2.2.2.2.2.2.2.2.1, H11.out.2.2.2.2.2.2.2.2.2.2.2.2.2.2.2.2.2.2.2.1, H11.out.2.2.2.2.2.2.2.2.2.2.2.2.2.2.2.2.2.2.2.2.1.call I18.out, H11.out.2.2.2.2.2.2.2.2.2.2.2.2.2.2.2.2.2.2.2.2.2.call I18.out⟩
    clear I17 I18 H11
    go_upto_region 10 with fail
    obtain rfl : E = 1 := HE.out.1
    clear HE HD
    go_wp2_with fail
    refine (K2.out _ H12.out.2.2.2.2.1).mono ?_
    rintro e w19 ⟨rfl, hb19⟩
    have H13 : Hid (Below w.heap.size w w19 ∧ Bk w.heap.size w19 N (seV d ee f x) 43 ∧ Bk w.heap.size w19 (N + 1) (nuV a) 24 ∧ Bk w.heap.size w19 (N + 1 + 1) (nuV b) 24 ∧ GlobQ w19 ∧ Bk w.heap.size w19 A2 (fvV) 45 ∧ Bk w.heap.size w19 A3 (nuV kk) 24 ∧ Bk w.heap.size w19 A5 (tdV (tG (f % QQ) (a % QQ) zp)) 30 ∧ N < A5 ∧ (N + 1) < A5 ∧ (N + 1 + 1) < A5 ∧ A2 < A5 ∧ A3 < A5 ∧ Bk w.heap.size w19 A7 (tdV (tG (f % QQ) (b % QQ) zq)) 30 ∧ N < A7 ∧ (N + 1) < A7 ∧ (N + 1 + 1) < A7 ∧ A2 < A7 ∧ A3 < A7 ∧ A5 < A7 ∧ Bk w.heap.size w19 A14 (nuV r) 24 ∧ Bk w.heap.size w19 A16 (nuV r) 24) := ⟨below_call0 H12.out.1 hb19, H12.out.2.1.call hb19, H12.out.2.2.1.call hb19, H12.out.2.2.2.1.call hb19, H12.out.2.2.2.2.1.call hb19, H12.out.2.2.2.2.2.1.call hb19, H12.out.2.2.2.2.2.2.1.call hb19, H12.out.2.2.2.2.2.2.2.1.call hb19, H12.out.2.2.2.2.2.2.2.2.1, H12.out.2.2.2.2.2.2.2.2.2.1, H12.out.2.2.2.2.2.2.2.2.2.2.1, H12.out.2.2.2.2.2.2.2.2.2.2.2.1, H12.out.2.2.2.2.2.2.2.2.2.2.2.2.1, H12.out.2.2.2.2.2.2.2.2.2.2.2.2.2.1.call hb19, H12.out.2.2.2.2.2.2.2.2.2.2.2.2.2.2.1, H12.out.2.2.2.2.2.2.2.2.2.2.2.2.2.2.2.1, H12.out.2.2.2.2.2.2.2.2.2.2.2.2.2.2.2.2.1, H12.out.2.2.2.2.2.2.2.2.2.2.2.2.2.2.2.2.2.1, H12.out.2.2.2.2.2.2.2.2.2.2.2.2.2.2.2.2.2.2.1, H12.out.2.2.2.2.2.2.2.2.2.2.2.2.2.2.2.2.2.2.2.1, H12.out.2.2.2.2.2.2.2.2.2.2.2.2.2.2.2.2.2.2.2.2.1.call hb19, H12.out.2.2.2.2.2.2.2.2.2.2.2.2.2.2.2.2.2.2.2.2.2.call hb19⟩
    clear hb19 H12
    go_wp2_with fail
    go_ret
    exact ⟨rfl, H13.out.1⟩
end Go.Proofs.YtkhlkkfhhjocpaaDoor
