/- wardmoteref01.Mod: the remainder of a wide number, by the reference's digits. -/
import Derived.Test.YtpedidldhlldfaaRest
import Derived.Test.YtpedidldhlldfaaWDgs
import Derived.Test.YtpedidldhlldfaaDgs
import Derived.Test.YtpedidldhlldfaaSubR
import Derived.Deep.DeepCutAuto
namespace Go.Proofs.Ytpedidldhlldfaa
open Go.RowKit

theorem lt_of_div0 (V K : Nat) (hK : 0 < K) (h : V / K = 0) : V < K := by
  have e := Nat.div_add_mod V K
  rw [h] at e
  have l := Nat.mod_lt V hK
  omega
theorem dval_digL32 (V : Nat) (h : V / 2 ^ 512 = 0) : dval (digL V 32) = V := by
  have l := lt_of_div0 V _ (Nat.two_pow_pos 512) h
  have gen : ∀ k n : Nat, k = 16 * n → (2 : Nat) ^ k = 65536 ^ n := fun k n h => by rw [h, Nat.pow_mul]
  rw [gen 512 32 (by decide)] at l
  rw [dval_digL, Nat.mod_eq_of_lt l]

set_option maxHeartbeats 1000000 in
theorem modr_zero (V : Nat) (w : World) :
    Calls Try.prog 25 #[.agg #[.int .u64 (limb (V) 0 : Nat), .int .u64 (limb (V) 1 : Nat), .int .u64 (limb (V) 2 : Nat), .int .u64 (limb (V) 3 : Nat), .int .u64 (limb (V) 4 : Nat), .int .u64 (limb (V) 5 : Nat), .int .u64 (limb (V) 6 : Nat), .int .u64 (limb (V) 7 : Nat)], .agg #[.int .u64 0, .int .u64 0, .int .u64 0, .int .u64 0]] w fun e w' => e = .returned (.tuple #[.agg #[.int .u64 0, .int .u64 0, .int .u64 0, .int .u64 0], .int .i64 1]) ∧ Below w.heap.size w w' := by
  go_enter Try.func25, Try.ntmps25
  go_wp2
  refine bodyPost_ret (v := .tuple #[.agg #[.int .u64 0, .int .u64 0, .int .u64 0, .int .u64 0], .int .i64 1]) ?_ rfl ⟨rfl, ?_⟩
  · simp [results, Try.results25, go_sem]
  · ((repeat' (first | exact Below.refl _ _ | refine Below.setCell ?_ ?_ _ | refine below_alloc0 ?_ _ | refine below_drewN ?_ _ | refine Below.drew ?_ | refine below_call0 ?_ (by assumption))) <;> (first | omega | (simp; done) | (simp; omega)))

theorem limb_some (m : Nat) (hm : m < R256) (h0 : 0 < m) : ¬ (limb m 0 = 0 ∧ limb m 1 = 0 ∧ limb m 2 = 0 ∧ limb m 3 = 0) := by
  rintro ⟨e0, e1, e2, e3⟩
  have j := join_limb m hm
  rw [e0, e1, e2, e3] at j
  unfold join4 at j
  omega

set_option maxHeartbeats 4000000 in
theorem modr_any (V m : Nat) (hV : V / 2 ^ 512 = 0) (h0 : 0 < m) (hm : m < R256) (w : World) :
    Calls Try.prog 25 #[.agg #[.int .u64 (limb (V) 0 : Nat), .int .u64 (limb (V) 1 : Nat), .int .u64 (limb (V) 2 : Nat), .int .u64 (limb (V) 3 : Nat), .int .u64 (limb (V) 4 : Nat), .int .u64 (limb (V) 5 : Nat), .int .u64 (limb (V) 6 : Nat), .int .u64 (limb (V) 7 : Nat)], .agg #[.int .u64 (limb (m) 0 : Nat), .int .u64 (limb (m) 1 : Nat), .int .u64 (limb (m) 2 : Nat), .int .u64 (limb (m) 3 : Nat)]] w fun e w' => e = .returned (.tuple #[.agg #[.int .u64 (limb (V % m) 0 : Nat), .int .u64 (limb (V % m) 1 : Nat), .int .u64 (limb (V % m) 2 : Nat), .int .u64 (limb (V % m) 3 : Nat)], .int .i64 0]) ∧ Below w.heap.size w w' := by
  obtain ⟨r, hr⟩ : ∃ r, r = V % m := ⟨_, rfl⟩
  rw [← hr]
  have HA : Hid (dval (digL V 32) = V ∧ dval (digL m 16) = m ∧ m < R256 ∧ 0 < m ∧ r = V % m ∧ r < R256) := ⟨dval_digL32 V hV, dval_digL16 m hm, hm, h0, hr, by rw [hr]; exact Nat.lt_trans (Nat.mod_lt _ h0) hm⟩
  have hsome := limb_some m hm h0
  have tests : ((limb m 0 : Int) == 0) = false ∨ ((limb m 0 : Int) == 0) = true ∧ ((limb m 1 : Int) == 0) = false ∨ ((limb m 0 : Int) == 0) = true ∧ ((limb m 1 : Int) == 0) = true ∧ ((limb m 2 : Int) == 0) = false ∨ ((limb m 0 : Int) == 0) = true ∧ ((limb m 1 : Int) == 0) = true ∧ ((limb m 2 : Int) == 0) = true ∧ ((limb m 3 : Int) == 0) = false := by
    simp only [beq_eq_false_iff_ne, beq_iff_eq, ne_eq]
    omega
  clear hsome h0 hm hr hV
  go_enter Try.func25, Try.ntmps25
  refine wp_seq_k ?_
  intro K0 hK0
  go_cut [2, 3, 4, 5] (fun a b c d X => a = .pointer (some ⟨w.heap.size, 0, none⟩) ∧ b = .pointer (some ⟨w.heap.size + 1, 0, none⟩) ∧ c = .pointer (some ⟨w.heap.size + 1 + 1, 0, none⟩) ∧ d = .int .i64 0 ∧ Num8 X w.heap.size V ∧ Num4 X (w.heap.size + 1) m ∧ Pend X (w.heap.size + 1 + 1) ∧ Below w.heap.size w X ∧ w.heap.size + 1 + 1 < X.heap.size)
  case first =>
    go_wp2_with fail
    go_meet
    refine ⟨rfl, rfl, rfl, rfl, ((Num8.new w V _).alloc (by simp)).alloc (by simp; omega), by ((repeat' (first | assumption | (refine Num4.new' ?_; first | omega | (simp; done)) | refine Num4.set ?_ ?_ | refine Num4.alloc ?_ ?_ | refine Num4.drewN ?_ | refine Num4.call ?_ (by assumption) ?_)) <;> (first | omega | (simp; done) | (simp; omega))), ?_, by ((repeat' (first | exact Below.refl _ _ | refine Below.setCell ?_ ?_ _ | refine below_alloc0 ?_ _ | refine below_drewN ?_ _ | refine Below.drew ?_ | refine below_call0 ?_ (by assumption))) <;> (first | omega | (simp; done) | (simp; omega))), by simp⟩
    have h := Pend.new ((w.alloc (.cells #[.int .u64 (limb V 0 : Nat), .int .u64 (limb V 1 : Nat), .int .u64 (limb V 2 : Nat), .int .u64 (limb V 3 : Nat), .int .u64 (limb V 4 : Nat), .int .u64 (limb V 5 : Nat), .int .u64 (limb V 6 : Nat), .int .u64 (limb V 7 : Nat)] 34)).alloc (.cells #[.int .u64 (limb m 0 : Nat), .int .u64 (limb m 1 : Nat), .int .u64 (limb m 2 : Nat), .int .u64 (limb m 3 : Nat)] 24)) 24
    simp only [World.size_alloc] at h
    exact h
  case rest =>
  obtain ⟨rfl, rfl, rfl, rfl, VX, MX, PX, WX, zx⟩ := hcut
  obtain ⟨v0, v1, v2, v3, v4, v5, v6, v7⟩ : _ ∧ _ ∧ _ ∧ _ ∧ _ ∧ _ ∧ _ ∧ _ := ⟨VX 0 (by omega), VX 1 (by omega), VX 2 (by omega), VX 3 (by omega), VX 4 (by omega), VX 5 (by omega), VX 6 (by omega), VX 7 (by omega)⟩
  obtain ⟨m0, m1, m2, m3⟩ := MX.facts
  clear VX
  refine hK0 _ _ ?_
  clear hK0 K0
  refine wp_seq_k ?_
  intro K1 hK1
  refine wp_seq_k ?_
  intro K2 hK2
  go_cut [23] (fun a X => a = .bool false ∧ X = wc)
  case first =>
    rcases tests with t0 | ⟨t0, t1⟩ | ⟨t0, t1, t2⟩ | ⟨t0, t1, t2, t3⟩
    all_goals
      go_wp2_with fail
      go_meet
      exact ⟨rfl, rfl⟩
  case rest =>
    obtain ⟨rfl, hw⟩ := hcut
    subst hw
    refine hK2 _ _ ?_
    have HK : Hid (∀ w', Below wc.heap.size wc w' → (w'.cell? ⟨w.heap.size + 1, 0, none⟩ = some (.int .u64 (limb (m) 0 : Nat)) ∧ w'.cell? ⟨w.heap.size + 1, 1, none⟩ = some (.int .u64 (limb (m) 1 : Nat)) ∧ w'.cell? ⟨w.heap.size + 1, 2, none⟩ = some (.int .u64 (limb (m) 2 : Nat)) ∧ w'.cell? ⟨w.heap.size + 1, 3, none⟩ = some (.int .u64 (limb (m) 3 : Nat)))) := fun w' h => (MX.call h (by omega)).facts
    have HP : Hid (∀ w', Below wc.heap.size wc w' → Pend w' (w.heap.size + 1 + 1)) := fun w' h => PX.call h
    clear MX PX
    go_wp2_with fail
    go_region_with (first
      | (go_at_call 45; refine (wdigits_any V _).mono ?_; rintro e w1 ⟨va, rfl, da, hq1⟩; have B1 : Below wc.heap.size wc w1 := below_call0 (by ((repeat' (first | exact Below.refl _ _ | refine Below.setCell ?_ ?_ _ | refine below_alloc0 ?_ _ | refine below_drewN ?_ _ | refine Below.drew ?_ | refine below_call0 ?_ (by assumption))) <;> (first | omega | (simp; done) | (simp; omega)))) hq1; obtain ⟨m10, m11, m12, m13⟩ := HK.out _ B1)
      | (go_at_call 12; refine (digits_any m _).mono ?_; rintro e w2 ⟨vb, rfl, db, hq2⟩; have da2 := Dg.call ‹Dg _ _ (digL V 32)› hq2; have B2 : Below wc.heap.size wc w2 := below_call0 (by first | assumption | exact Below.drew (by assumption)) hq2)
      | (go_at_call 44; refine (rest_ref _ _ (digL V 32) (digL m 16) (digL_ok V 32) (digL_ok m 16) (by rw [digL_length]; omega) (by rw [digL_length]; omega) (by rw [HA.out.2.1]; exact HA.out.2.2.1) (by rw [HA.out.2.1]; exact HA.out.2.2.2.1) _ ‹Dg _ _ (digL V 32)› ‹Dg _ _ (digL m 16)›).mono ?_; rintro e w3 ⟨x, l, rfl, dx, ⟨lok, lval⟩, hq3⟩; rw [HA.out.1, HA.out.2.1, ← HA.out.2.2.2.2.1] at lval; have B3 : Below wc.heap.size wc w3 := below_call0 (by first | assumption | exact Below.drew (by assumption)) hq3; have HX : Hid _ := And.intro lok (And.intro dx lval); clear lok dx lval)
      | (go_at_call 14; have KN := num_ref _ _ HX.out.1 _ HX.out.2.1; rw [dpre16 (by rw [HX.out.2.2]; exact HA.out.2.2.2.2.2), HX.out.2.2] at KN; refine KN.mono ?_; clear KN; rintro e w4 ⟨rfl, hq4⟩; have B4 : Below wc.heap.size wc w4 := below_call0 (by first | assumption | exact Below.drew (by assumption)) hq4; have P4 := HP.out _ B4; obtain ⟨⟨p0, p1, p2, p3⟩, ⟨f0, f1, f2, f3⟩, pz⟩ := P4.facts))
    all_goals
      go_wp2
      refine bodyPost_ret (v := .tuple #[.agg #[.int .u64 (limb (r) 0 : Nat), .int .u64 (limb (r) 1 : Nat), .int .u64 (limb (r) 2 : Nat), .int .u64 (limb (r) 3 : Nat)], .int .i64 0]) ?_ rfl ⟨rfl, ?_⟩
      · simp [results, Try.results25, go_sem, p0, p1, p2, p3]
      · have W4 : Below w.heap.size w _ := below_call0 WX ‹Below wc.heap.size wc _›
        ((repeat' (first | exact Below.refl _ _ | refine Below.setCell ?_ ?_ _ | refine below_alloc0 ?_ _ | refine below_drewN ?_ _ | refine Below.drew ?_ | refine below_call0 ?_ (by assumption))) <;> (first | omega | (simp; done) | (simp; omega)))
end Go.Proofs.Ytpedidldhlldfaa
